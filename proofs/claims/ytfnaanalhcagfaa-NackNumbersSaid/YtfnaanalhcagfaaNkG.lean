/- nack: the document's Numbers. -/
import Derived.Test.YtfnaanalhcagfaaNkS
namespace Go.Proofs.Ytfnaanalhcagfaa
open Go.RowKit
set_option linter.unusedVariables false
/-- Numbers are added, each once. -/
def addAll (acc l : List Int) : List Int := l.foldl addNew acc
theorem addAll_snoc (acc l : List Int) (x : Int) : addAll acc (l ++ [x]) = addNew (addAll acc l) x := by unfold addAll; rw [List.foldl_append]; rfl
theorem addAll_append (acc l m : List Int) : addAll acc (l ++ m) = addAll (addAll acc l) m := by unfold addAll; rw [List.foldl_append]
theorem addAll_dist (l : List Int) : addAll [] l = dist l := rfl
theorem addAll_len (acc l : List Int) : (addAll acc l).length ≤ acc.length + l.length := fold_len l acc
/-- How far the document's Numbers is: behind the pairs of a list, and k bits of one more. -/
def nmAt (l : List (Int × Nat)) (p : Int × Nat) (k : Nat) : List Int := addAll (dist (catN l)) (nums p.1 p.2 k)
theorem nmAt_zero (l : List (Int × Nat)) (p : Int × Nat) : nmAt l p 0 = addNew (dist (catN l)) p.1 := rfl
theorem nmAt_succ (l : List (Int × Nat)) (p : Int × Nat) (k : Nat) : nmAt l p (k + 1) = if p.2 / 2 ^ k % 2 = 1 then addNew (nmAt l p k) (nx p.1 k) else nmAt l p k := by
  unfold nmAt
  rw [nums]
  split
  · rw [addAll_snoc]
  · rw [List.append_nil]
theorem nmAt_end (l : List (Int × Nat)) (p : Int × Nat) : nmAt l p 16 = dist (catN (l ++ [p])) := by
  unfold nmAt
  rw [catN_snoc, ← addAll_dist, ← addAll_dist, addAll_append]
theorem nmAt_len (l : List (Int × Nat)) (p : Int × Nat) (k : Nat) : (nmAt l p k).length ≤ 17 * l.length + (k + 1) := by
  have h1 := addAll_len (dist (catN l)) (nums p.1 p.2 k)
  have h2 := dist_len (catN l)
  have h3 := catN_len l
  have h4 := nums_len p.1 p.2 k
  unfold nmAt
  omega
theorem addNew_in (acc : List Int) (x : Int) : addNew acc x = if acc.contains x = true then acc else acc ++ [x] := rfl
set_option maxRecDepth 100000 in
set_option maxHeartbeats 6400000 in
theorem refNumbers_any (l : List (Int × Nat)) (a : Option Addr) (c : Nat) (w : World) (hr : RdR w a l) (hl : l.length ≤ 1000) (hb : ∀ p ∈ l, 0 ≤ p.1 ∧ p.1 < 65536 ∧ p.2 < 65536) :
    Calls Try.prog 36 #[.slice a l.length c] w fun e w' => ∃ v, e = .returned v ∧ w'.ownsRow w.heap.size 3 1 v (dist (catN l)).length ((dist (catN l)).map (Value.int .i64)) ∧ Below w.heap.size w w' := by
  obtain ⟨j0, hj, hy0, hy1, hy2⟩ := info_parts info64
  have HB := Lib.hid hb
  have HR := Lib.hid (fun (W : World) (h : Below w.heap.size w W) => hr.later h)
  clear hb hr
  go_enter Try.func36, Try.ntmps36
  go_upto_region 2 with fail
  have hA0 : (w.alloc (.cells #[] 3)).heap[w.heap.size]? = some (Obj.cells #[] 3 (0, 0)) := heap_alloc_new _ _
  have r0 := own_made0 (s := 1) (Nat.le_refl w.heap.size) hA0
  have hb0 : Below w.heap.size w (w.alloc (.cells #[] 3)) := (Below.refl _ _).alloc (Nat.le_refl _) _
  clear hA0
  generalize w.alloc (.cells #[] 3) = w1 at r0 hb0 ⊢
  go_wp2_with fail
  go_loopw [3, 12] (fun v3 i wr => ∃ (k : Nat) (dd : List Int), k ≤ l.length ∧ i = .int .i64 k ∧ Hid (dist (catN (l.take k)) = dd) ∧ dd.length ≤ 17 * k ∧ wr.ownsRow w.heap.size 3 1 v3 dd.length (dd.map (Value.int .i64)) ∧ Below w.heap.size w wr)
    (fun _ i _ => l.length - (intOf i).toNat)
  case atStart => exact ⟨0, [], Nat.zero_le _, rfl, Lib.hid rfl, Nat.le_refl _, r0, hb0⟩
  case round =>
    clear r0 hb0
    obtain ⟨k, dd, hk, rfl, HD, hdl, hrow, hbk⟩ := hrel
    have hrow0 := hrow
    obtain ⟨av, cv, rfl, _, hcv1, hcv2, hrv⟩ := own_reads hrow0
    clear hrow0
    have hsz := hbk.size
    by_cases hlt : k < l.length
    · obtain ⟨g0, rfl, hg0, hc0, hc1⟩ := (HR.out _ hbk).at hlt
      have HS := Lib.hid (take_one l k hlt (0, 0))
      have hmem : l[k]?.getD (0, 0) ∈ l := by rw [List.getElem?_eq_getElem hlt]; exact List.getElem_mem hlt
      obtain ⟨p0, p1, p2⟩ := HB.out _ hmem
      generalize l[k]?.getD (0, 0) = pr at hc0 hc1 HS p0 p1 p2
      clear hmem
      have HE : Hid (nmAt (l.take k) pr 16 = dist (catN (l.take (k + 1)))) := Lib.hid (by rw [HS.out, nmAt_end])
      have HL := Lib.hid (fun q => nmAt_len (l.take k) pr q)
      have hlk : (l.take k).length = k := by rw [List.length_take]; omega
      have HZ : Hid (nmAt (l.take k) pr 0 = addNew dd pr.1) := Lib.hid (by rw [nmAt_zero, HD.out])
      have HSU := Lib.hid (fun q => nmAt_succ (l.take k) pr q)
      have HLK := Lib.hid hlk
      clear hlk
      obtain ⟨pid, bb⟩ := pr
      simp only at hc0 hc1 p0 p1 p2 HZ
      have hX := heap_alloc_new wr (.cells #[.int .i64 pid, .int .i64 (bb : Int)] 79)
      have hb1 := hbk.alloc hsz (.cells #[.int .i64 pid, .int .i64 (bb : Int)] 79)
      have hrow1 := hrow.alloc (.cells #[.int .i64 pid, .int .i64 (bb : Int)] 79)
      have hsz1 := hb1.size
      have hrv1 := hrv.later ((Below.refl _ wr).alloc (Nat.le_refl _) (.cells #[.int .i64 pid, .int .i64 (bb : Int)] 79))
      go_upto_region 5 with fail
      generalize wr.alloc (.cells #[.int .i64 pid, .int .i64 (bb : Int)] 79) = w2 at hX hb1 hrow1 hsz1 hrv1 ⊢
      generalize hgg : wr.heap.size = g at hX ⊢
      have hgw : w.heap.size ≤ g := by omega
      clear hgg hrow hsz hbk hrv hc0 hc1 hg0
      have d0 : w2.cell? ⟨g, 0, none⟩ = some (.int .i64 pid) := by have := cell_of_row _ _ 0 _ _ (0, 0) hX; exact this
      have hIq := fun r h => in_any dd pid av cv w2 hrv1 (by omega) r h
      cases hcc : dd.contains pid
      · have hIc := Lib.hid (hIq false hcc)
        rw [addNew_new hcc] at HZ
        clear hIq hcc hrv1
        go_wp2_with fail
        refine hIc.out.mono ?_
        rintro e w6 ⟨rfl, rfl⟩
        go_wp2_with (at_builtin; refine append_rec rfl (.tmp 21) (.tmp 24) 65 rfl w.heap.size 3 j0 (.int .i64 0) 1 8 Try.underlying65 hj hy0 hy1 hy2 rfl (by decide) _ dd.length (dd.map (Value.int .i64)) rfl hrow1 #[.int .i64 pid] rfl rfl ?d1 ?d2 ?d3 w.heap.size (Nat.le_refl _) hsz1 hb1 ?_)
        case d1 => simp [Value.oneCell']
        case d2 => unfold maxLen; omega
        case d3 => omega
        intro v4 w3 hrow3 hb3 hg3
        have hX3 := keep_blk (heap_at_old _ (.cells #[.int .i64 pid] 3) _ _ hX) (hrow1.alloc (.cells #[.int .i64 pid] 3)) (by decide) hg3
        have hr3 : w3.ownsRow w.heap.size 3 1 v4 (dd ++ [pid]).length ((dd ++ [pid]).map (Value.int .i64)) := by simpa using hrow3
        clear hX hrow1 hrow3 hb1 hg3 hsz1 d0 hIc
        have e1 : w3.cell? ⟨g, 1, none⟩ = some (.int .i64 (bb : Int)) := by have := cell_of_row _ _ 1 _ _ (0, 0) hX3; exact this
        go_wp2_with fail
        go_loopw [3, 6, 7] (fun v3 vb vi wr => ∃ (q bq : Nat) (nn : List Int), q ≤ 16 ∧ vi = .int .i64 ((q + 1 : Nat) : Int) ∧ vb = .int .i64 (bq : Int) ∧ Hid (bb / 2 ^ q = bq) ∧ bq < 65536 ∧ Hid (nmAt (l.take k) (pid, bb) q = nn) ∧ wr.ownsRow w.heap.size 3 1 v3 nn.length (nn.map (Value.int .i64)) ∧ wr.heap[g]? = some (Obj.cells #[.int .i64 pid, .int .i64 (bb : Int)] 79 (0, 0)) ∧ Below w.heap.size w wr)
          (fun _ _ vi _ => 18 - (intOf vi).toNat)
        case atStart => exact ⟨0, bb, _, Nat.zero_le _, rfl, rfl, Lib.hid (by simp), p2, Lib.hid rfl, by rw [HZ.out]; exact hr3, hX3, hb3⟩
        case round =>
          clear hr3 hX3 hb3 e1
          obtain ⟨q, bq, nn, hq, rfl, rfl, HBQ, hbq, HNN, hrq, hXq, hbq2⟩ := hrel
          have hrq0 := hrq
          obtain ⟨aq, cq, rfl, _, hcq1, hcq2, hrvq⟩ := own_reads hrq0
          clear hrq0
          have hnl : nn.length ≤ 17 * k + 17 := by have h1 := HL.out q; rw [HNN.out, HLK.out] at h1; omega
          have hszq := hbq2.size
          have f0 : wr.cell? ⟨g, 0, none⟩ = some (.int .i64 pid) := by have := cell_of_row _ _ 0 _ _ (0, 0) hXq; exact this
          have hdone : Hid (nmAt (l.take k) (pid, bb) 16 = nn) ∨ q < 16 := by
            by_cases h : q < 16
            · exact .inr h
            · obtain rfl : q = 16 := by omega
              exact .inl HNN
          by_cases hql : q < 16
          · have hsu : nmAt (l.take k) (pid, bb) (q + 1) = if bb / 2 ^ q % 2 = 1 then addNew (nmAt (l.take k) (pid, bb) q) (nx pid q) else nmAt (l.take k) (pid, bb) q := HSU.out q
            rw [HNN.out, HBQ.out] at hsu
            have HSQ := Lib.hid hsu
            clear hsu
            have HB2 : Hid (bb / 2 ^ (q + 1) = bq / 2) := Lib.hid (by rw [Nat.pow_succ, ← Nat.div_div_eq_div_mul, HBQ.out])
            have hxb := nx_bd pid q
            have hnx : (pid + ((q : Int) + 1)) % 65536 = nx pid q := by unfold nx; omega
            have hIq := fun r h => in_any nn (nx pid q) aq cq wr hrvq (by omega) r h
            generalize nx pid q = x at hnx hxb hIq HSQ
            have hq1 : (q : Int) + 1 ≤ 16 := by omega
            rcases Nat.mod_two_eq_zero_or_one bq with hbit | hbit
            · have hbi : (bq : Int) % 2 = 0 := by omega
              have HN2 : Hid (nmAt (l.take k) (pid, bb) (q + 1) = nn) := Lib.hid (by rw [HSQ.out, if_neg (by omega)])
              clear hIq HSQ hrvq hdone
              go_wp2_with fail
              go_roundw
              case rel => exact ⟨q + 1, bq / 2, nn, by omega, by go_num, by simp, HB2, by omega, HN2, hrq, hXq, hbq2⟩
              case measure => simp [intOf]; omega
            · have hbi : (bq : Int) % 2 = 1 := by omega
              cases hcx : nn.contains x
              · have hIc := Lib.hid (hIq false hcx)
                have HN2 : Hid (nmAt (l.take k) (pid, bb) (q + 1) = nn ++ [x]) := Lib.hid (by rw [HSQ.out, if_pos hbit, addNew_new hcx])
                clear hIq HSQ hrvq hdone hcx
                go_wp2_with fail
                refine hIc.out.mono ?_
                rintro e w6 ⟨rfl, rfl⟩
                go_wp2_with (at_builtin; refine append_rec rfl (.tmp 46) (.tmp 48) 65 rfl w.heap.size 3 j0 (.int .i64 0) 1 8 Try.underlying65 hj hy0 hy1 hy2 rfl (by decide) _ nn.length (nn.map (Value.int .i64)) rfl hrq #[.int .i64 x] rfl rfl ?d1 ?d2 ?d3 w.heap.size (Nat.le_refl _) hszq hbq2 ?_)
                case d1 => simp [Value.oneCell']
                case d2 => unfold maxLen; omega
                case d3 => omega
                intro v5 w10 hrow10 hb10 hg10
                have hX10 := keep_blk (heap_at_old _ (.cells #[.int .i64 x] 3) _ _ hXq) (hrq.alloc (.cells #[.int .i64 x] 3)) (by decide) hg10
                have hd10 : w10.ownsRow w.heap.size 3 1 v5 (nn ++ [x]).length ((nn ++ [x]).map (Value.int .i64)) := by simpa using hrow10
                clear hrow10 hg10 hXq hrq hbq2 f0 hIc
                go_wp2_with fail
                go_roundw
                case rel => exact ⟨q + 1, bq / 2, nn ++ [x], by omega, by go_num, by simp, HB2, by omega, HN2, hd10, hX10, hb10⟩
                case measure => simp [intOf]; omega
              · have hIc := Lib.hid (hIq true hcx)
                have HN2 : Hid (nmAt (l.take k) (pid, bb) (q + 1) = nn) := Lib.hid (by rw [HSQ.out, if_pos hbit, addNew_old hcx])
                clear hIq HSQ hrvq hdone hcx
                go_wp2_with fail
                refine hIc.out.mono ?_
                rintro e w6 ⟨rfl, rfl⟩
                go_wp2_with fail
                go_roundw
                case rel => exact ⟨q + 1, bq / 2, nn, by omega, by go_num, by simp, HB2, by omega, HN2, hrq, hXq, hbq2⟩
                case measure => simp [intOf]; omega
          · obtain rfl : q = 16 := by omega
            have HEN : Hid (dist (catN (l.take (k + 1))) = nn) := Lib.hid (HE.out.symm.trans HNN.out)
            have hn17 : nn.length ≤ 17 * (k + 1) := by omega
            clear HNN HBQ hdone f0
            go_wp2_with fail
            go_roundw
            case rel => exact ⟨k + 1, nn, by omega, by go_num, HEN, hn17, hrq, hbq2⟩
            case measure => simp [intOf]; omega
      · have hIc := Lib.hid (hIq true hcc)
        rw [addNew_old hcc] at HZ
        clear hIq hcc hrv1
        go_wp2_with fail
        refine hIc.out.mono ?_
        rintro e w6 ⟨rfl, rfl⟩
        have e1 : w2.cell? ⟨g, 1, none⟩ = some (.int .i64 (bb : Int)) := by have := cell_of_row _ _ 1 _ _ (0, 0) hX; exact this
        go_wp2_with fail
        go_loopw [3, 6, 7] (fun v3 vb vi wr => ∃ (q bq : Nat) (nn : List Int), q ≤ 16 ∧ vi = .int .i64 ((q + 1 : Nat) : Int) ∧ vb = .int .i64 (bq : Int) ∧ Hid (bb / 2 ^ q = bq) ∧ bq < 65536 ∧ Hid (nmAt (l.take k) (pid, bb) q = nn) ∧ wr.ownsRow w.heap.size 3 1 v3 nn.length (nn.map (Value.int .i64)) ∧ wr.heap[g]? = some (Obj.cells #[.int .i64 pid, .int .i64 (bb : Int)] 79 (0, 0)) ∧ Below w.heap.size w wr)
          (fun _ _ vi _ => 18 - (intOf vi).toNat)
        case atStart => exact ⟨0, bb, _, Nat.zero_le _, rfl, rfl, Lib.hid (by simp), p2, Lib.hid rfl, by rw [HZ.out]; exact hrow1, hX, hb1⟩
        case round =>
          clear hrow1 hX hb1 e1
          obtain ⟨q, bq, nn, hq, rfl, rfl, HBQ, hbq, HNN, hrq, hXq, hbq2⟩ := hrel
          have hrq0 := hrq
          obtain ⟨aq, cq, rfl, _, hcq1, hcq2, hrvq⟩ := own_reads hrq0
          clear hrq0
          have hnl : nn.length ≤ 17 * k + 17 := by have h1 := HL.out q; rw [HNN.out, HLK.out] at h1; omega
          have hszq := hbq2.size
          have f0 : wr.cell? ⟨g, 0, none⟩ = some (.int .i64 pid) := by have := cell_of_row _ _ 0 _ _ (0, 0) hXq; exact this
          have hdone : Hid (nmAt (l.take k) (pid, bb) 16 = nn) ∨ q < 16 := by
            by_cases h : q < 16
            · exact .inr h
            · obtain rfl : q = 16 := by omega
              exact .inl HNN
          by_cases hql : q < 16
          · have hsu : nmAt (l.take k) (pid, bb) (q + 1) = if bb / 2 ^ q % 2 = 1 then addNew (nmAt (l.take k) (pid, bb) q) (nx pid q) else nmAt (l.take k) (pid, bb) q := HSU.out q
            rw [HNN.out, HBQ.out] at hsu
            have HSQ := Lib.hid hsu
            clear hsu
            have HB2 : Hid (bb / 2 ^ (q + 1) = bq / 2) := Lib.hid (by rw [Nat.pow_succ, ← Nat.div_div_eq_div_mul, HBQ.out])
            have hxb := nx_bd pid q
            have hnx : (pid + ((q : Int) + 1)) % 65536 = nx pid q := by unfold nx; omega
            have hIq := fun r h => in_any nn (nx pid q) aq cq wr hrvq (by omega) r h
            generalize nx pid q = x at hnx hxb hIq HSQ
            have hq1 : (q : Int) + 1 ≤ 16 := by omega
            rcases Nat.mod_two_eq_zero_or_one bq with hbit | hbit
            · have hbi : (bq : Int) % 2 = 0 := by omega
              have HN2 : Hid (nmAt (l.take k) (pid, bb) (q + 1) = nn) := Lib.hid (by rw [HSQ.out, if_neg (by omega)])
              clear hIq HSQ hrvq hdone
              go_wp2_with fail
              go_roundw
              case rel => exact ⟨q + 1, bq / 2, nn, by omega, by go_num, by simp, HB2, by omega, HN2, hrq, hXq, hbq2⟩
              case measure => simp [intOf]; omega
            · have hbi : (bq : Int) % 2 = 1 := by omega
              cases hcx : nn.contains x
              · have hIc := Lib.hid (hIq false hcx)
                have HN2 : Hid (nmAt (l.take k) (pid, bb) (q + 1) = nn ++ [x]) := Lib.hid (by rw [HSQ.out, if_pos hbit, addNew_new hcx])
                clear hIq HSQ hrvq hdone hcx
                go_wp2_with fail
                refine hIc.out.mono ?_
                rintro e w6 ⟨rfl, rfl⟩
                go_wp2_with (at_builtin; refine append_rec rfl (.tmp 46) (.tmp 48) 65 rfl w.heap.size 3 j0 (.int .i64 0) 1 8 Try.underlying65 hj hy0 hy1 hy2 rfl (by decide) _ nn.length (nn.map (Value.int .i64)) rfl hrq #[.int .i64 x] rfl rfl ?d1 ?d2 ?d3 w.heap.size (Nat.le_refl _) hszq hbq2 ?_)
                case d1 => simp [Value.oneCell']
                case d2 => unfold maxLen; omega
                case d3 => omega
                intro v5 w10 hrow10 hb10 hg10
                have hX10 := keep_blk (heap_at_old _ (.cells #[.int .i64 x] 3) _ _ hXq) (hrq.alloc (.cells #[.int .i64 x] 3)) (by decide) hg10
                have hd10 : w10.ownsRow w.heap.size 3 1 v5 (nn ++ [x]).length ((nn ++ [x]).map (Value.int .i64)) := by simpa using hrow10
                clear hrow10 hg10 hXq hrq hbq2 f0 hIc
                go_wp2_with fail
                go_roundw
                case rel => exact ⟨q + 1, bq / 2, nn ++ [x], by omega, by go_num, by simp, HB2, by omega, HN2, hd10, hX10, hb10⟩
                case measure => simp [intOf]; omega
              · have hIc := Lib.hid (hIq true hcx)
                have HN2 : Hid (nmAt (l.take k) (pid, bb) (q + 1) = nn) := Lib.hid (by rw [HSQ.out, if_pos hbit, addNew_old hcx])
                clear hIq HSQ hrvq hdone hcx
                go_wp2_with fail
                refine hIc.out.mono ?_
                rintro e w6 ⟨rfl, rfl⟩
                go_wp2_with fail
                go_roundw
                case rel => exact ⟨q + 1, bq / 2, nn, by omega, by go_num, by simp, HB2, by omega, HN2, hrq, hXq, hbq2⟩
                case measure => simp [intOf]; omega
          · obtain rfl : q = 16 := by omega
            have HEN : Hid (dist (catN (l.take (k + 1))) = nn) := Lib.hid (HE.out.symm.trans HNN.out)
            have hn17 : nn.length ≤ 17 * (k + 1) := by omega
            clear HNN HBQ hdone f0
            go_wp2_with fail
            go_roundw
            case rel => exact ⟨k + 1, nn, by omega, by go_num, HEN, hn17, hrq, hbq2⟩
            case measure => simp [intOf]; omega
    · obtain rfl : k = l.length := by omega
      have hde := HD.out
      rw [List.take_length] at hde
      have hz9 : wr.ownsRow w.heap.size 3 1 (.slice av dd.length cv) (dist (catN l)).length ((dist (catN l)).map (Value.int .i64)) := by rw [hde]; exact hrow
      clear hde hrow
      go_wp2
      go_ret
      exact ⟨_, rfl, hz9, hbk⟩
end Go.Proofs.Ytfnaanalhcagfaa
