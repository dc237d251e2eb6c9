/- NackFewer: the walk. -/
import Derived.Test.YtfnaanalhcagfaaNkI
namespace Go.Proofs.Ytfnaanalhcagfaa
open Go.RowKit
set_option linter.unusedVariables false
theorem prV_at (l : List (Int × Nat)) : ∀ k, k < l.length → (prV l)[k * 2]? = some (.int .u16 (l[k]?.getD (0, 0)).1) ∧ (prV l)[k * 2 + 1]? = some (.int .u16 ((l[k]?.getD (0, 0)).2 : Int)) := by
  induction l with
  | nil => intro k h; simp at h
  | cons p l ih =>
    intro k h
    have e : prV (p :: l) = .int .u16 p.1 :: .int .u16 (p.2 : Int) :: prV l := by simp [prV]
    rw [e]
    cases k with
    | zero => simp
    | succ k =>
      have := ih k (by simpa using h)
      rw [show (k + 1) * 2 = k * 2 + 1 + 1 from by omega]
      simpa using this
theorem numSum_take (l : List (Int × Nat)) (k : Nat) (h : k < l.length) : numSum (l.take (k + 1)) = numSum (l.take k) + (nums (l[k]?.getD (0, 0)).1 (l[k]?.getD (0, 0)).2 16).length := by
  rw [List.take_succ_eq_append_getElem h, numSum_snoc, List.getElem?_eq_getElem h]
  rfl
/-- At a there are these pairs. -/
def RdP (W : World) (a : Option Addr) (l : List (Int × Nat)) : Prop := l = [] ∨ ∃ g, a = some ⟨g, 0, none⟩ ∧ g < W.heap.size ∧ ∀ i u, (prV l)[i]? = some u → W.cell? ⟨g, i, none⟩ = some u
theorem RdP.later {W W' : World} {a : Option Addr} {l : List (Int × Nat)} (h : RdP W a l) (hb : Below W.heap.size W W') : RdP W' a l := by
  rcases h with h | ⟨g, ha, hg, hc⟩
  · exact .inl h
  · exact .inr ⟨g, ha, Nat.lt_of_lt_of_le hg hb.size, fun i u hu => (hb.cell (p := ⟨g, i, none⟩) hg).trans (hc i u hu)⟩
theorem own_prs {W : World} {B : Nat} {T : TypeId} {v : Value} {l : List (Int × Nat)} (h : W.ownsRow B T 2 v l.length (prV l)) : ∃ a c, v = .slice a l.length c ∧ l.length ≤ c ∧ RdP W a l := by
  rcases Nat.eq_zero_or_pos l.length with h0 | h0
  · rcases h.2 with ⟨rfl, _⟩ | ⟨g, cap, cur, rfl, _, _, h1, _⟩
    · exact ⟨none, 0, by rw [h0], by omega, .inl (List.eq_nil_of_length_eq_zero h0)⟩
    · exact ⟨_, cap, rfl, h1, .inl (List.eq_nil_of_length_eq_zero h0)⟩
  · obtain ⟨g, cap, rfl, h1, h2, h3⟩ := own_cells h h0
    exact ⟨_, cap, rfl, h1, .inr ⟨g, rfl, h2, h3⟩⟩
theorem RdP.at {W : World} {a : Option Addr} {l : List (Int × Nat)} (h : RdP W a l) {k : Nat} (hk : k < l.length) : ∃ g, a = some ⟨g, 0, none⟩ ∧ g < W.heap.size ∧ W.cell? ⟨g, k * 2, none⟩ = some (.int .u16 (l[k]?.getD (0, 0)).1) ∧ W.cell? ⟨g, k * 2 + 1, none⟩ = some (.int .u16 ((l[k]?.getD (0, 0)).2 : Int)) := by
  rcases h with h | ⟨g, ha, hg, hc⟩
  · simp [h] at hk
  · obtain ⟨h1, h2⟩ := prV_at l k hk
    exact ⟨g, ha, hg, hc _ _ h1, hc _ _ h2⟩
namespace nackFewer
set_option maxRecDepth 100000 in
set_option maxHeartbeats 3200000 in
theorem walk (p0 : Option Addr) (len0 cap0 : Nat) (z0 : List Int) (w : World) (hrow : IsRow .u16 w p0 len0 cap0 z0) :
    Calls Try.prog 9 #[.slice p0 len0 cap0] w fun e w' => e = .returned (.bool true) ∧ Below w.heap.size w w' := by
  obtain ⟨es, rfl, l1, l2, hr0, hwf⟩ := hrow.reads
  have hz : ∀ n ∈ es.take 60, 0 ≤ n ∧ n < 65536 := fun n hn => by obtain ⟨h1, h2⟩ := u16_bd (hwf n (List.mem_of_mem_take hn)); exact ⟨h1, by omega⟩
  have hlen : min (es.length : Int) 60 = ((es.take 60).length : Int) := by rw [List.length_take]; omega
  have hl60 : (es.take 60).length ≤ 60 := by rw [List.length_take]; omega
  have HR := Lib.hid (fun (W : World) (h : Below w.heap.size w W) => (hr0.later h).take 60)
  have hmB : ((es.take 60).length : Int) ≤ (cap0 : Int) := by rw [List.length_take]; omega
  clear hrow hr0 hwf
  generalize es.take 60 = zs at hz hlen hl60 HR hmB
  obtain ⟨ok1, ok2, ok3⟩ := prs_ok zs hz
  have HZ := Lib.hid hz
  have HI := Lib.hid (fun (W : World) (h : Below w.heap.size w W) => ints_any zs p0 cap0 W (HR.out W h) (by omega) (fun n hn => by have := HZ.out n hn; omega))
  have HP := Lib.hid (fun (W : World) (h : Below w.heap.size w W) => pairs_any zs p0 cap0 W (HR.out W h) (by omega) HZ.out)
  clear hz
  go_enter Try.func9, Try.ntmps9
  go_wp2_with fail
  refine (nkAwake_any _).mono ?_
  rintro e wa ⟨rfl, hba⟩
  go_wp2_with fail
  refine (HI.out _ hba).mono ?_
  rintro e w3 ⟨v3, rfl, hrow3, hb3⟩
  obtain ⟨a3, c3, rfl, _, _, _, hr3⟩ := own_reads hrow3
  have hw3 := hba.trans (hb3.mono hba.size)
  clear hrow3 hb3 hba
  go_wp2_with fail
  refine (HP.out _ hw3).mono ?_
  rintro e w4 ⟨v4, rfl, hrow4, hb4⟩
  obtain ⟨a4, c4, rfl, hc4, hr4⟩ := own_prs hrow4
  have hr34 := hr3.later hb4
  have hw4 := hw3.trans (hb4.mono hw3.size)
  clear hrow4 hb4 hw3 hr3 HI HP HR
  have hnl : zs.contains = zs.contains := rfl
  generalize hps : prs zs = ps at *
  have HPS := Lib.hid hps
  clear hps hnl
  have hpl : ps.length ≤ 60 := by have := dist_len zs; omega
  have hIn := Lib.hid (fun (W : World) (h : Below w4.heap.size w4 W) (n : Int) (r : Bool) (hc : zs.contains n = r) => in_any zs n a3 c3 W (hr34.later h) (by omega) r hc)
  have hRd := Lib.hid (fun (W : World) (h : Below w4.heap.size w4 W) => hr4.later h)
  have hrI := Lib.hid (fun (W : World) (h : Below w4.heap.size w4 W) => hr34.later h)
  have HOK := Lib.hid ok1
  have HSUM := Lib.hid ok2
  have HLE := Lib.hid ok3
  have hsz := hw4.size
  clear hr34 hr4 ok1 ok2 ok3
  go_wp2_with fail
  go_loopw [5, 24] (fun zc zi wr => ∃ k : Nat, k ≤ ps.length ∧ zi = .int .i64 k ∧ zc = .int .i64 (numSum (ps.take k) : Nat) ∧ numSum (ps.take k) ≤ 17 * k ∧ Below w4.heap.size w4 wr)
    (fun _ zi _ => ps.length - (intOf zi).toNat)
  case atStart => exact ⟨0, by omega, rfl, by simp [numSum], by simp [numSum], Below.refl _ _⟩
  case round =>
    obtain ⟨k, hk, rfl, rfl, hle, hbk⟩ := hrel
    by_cases hlt : k < ps.length
    · obtain ⟨g, rfl, hg, hc0, hc1⟩ := (hRd.out wr hbk).at hlt
      have HS := Lib.hid (numSum_take ps k hlt)
      have hmem : ps[k]?.getD (0, 0) ∈ ps := by rw [List.getElem?_eq_getElem hlt]; exact List.getElem_mem hlt
      obtain ⟨o1, o2⟩ := HOK.out _ hmem
      obtain ⟨z0, z1⟩ := HZ.out _ o1
      generalize ps[k]?.getD (0, 0) = pr at hc0 hc1 HS o1 o2 z0 z1
      obtain ⟨pid, bb⟩ := pr
      simp only at hc0 hc1 HS o1 o2 z0 z1
      have hco : zs.contains pid = true := by rw [List.contains_iff_mem]; exact o1
      have hnl := nums_len pid bb 16
      have HN := Lib.hid (fun W => numbers_any pid bb z0 z1 o2 W)
      generalize (nums pid bb 16) = nm at HS hnl HN
      have HCO := Lib.hid hco
      clear hmem hco o1
      have hcv : IntKind.i64.wrap pid = pid := IntWalk.i64_in _ ⟨by omega, by omega⟩
      have hba := hbk.alloc hbk.size (.cells #[.int .u16 pid, .int .u16 (bb : Int)] 75)
      have hX := heap_alloc_new wr (.cells #[.int .u16 pid, .int .u16 (bb : Int)] 75)
      have d0 : (wr.alloc (.cells #[.int .u16 pid, .int .u16 (bb : Int)] 75)).cell? ⟨wr.heap.size, 0, none⟩ = some (.int .u16 pid) := by have := cell_of_row _ _ 0 _ _ (0, 0) hX; exact this
      have d1 : (wr.alloc (.cells #[.int .u16 pid, .int .u16 (bb : Int)] 75)).cell? ⟨wr.heap.size, 1, none⟩ = some (.int .u16 (bb : Int)) := by have := cell_of_row _ _ 1 _ _ (0, 0) hX; exact this
      have hIc := Lib.hid (hIn.out _ hba pid true HCO.out)
      go_wp2_with fail
      refine hIc.out.mono ?_
      rintro e w6 ⟨rfl, rfl⟩
      go_wp2_with fail
      refine (HN.out _).mono ?_
      rintro e w7 ⟨v7, rfl, hrow7, hb7⟩
      obtain ⟨a7, c7, rfl, _⟩ := own_reads hrow7
      have hb8 := hba.trans (hb7.mono hba.size)
      have hcn : IntKind.i64.wrap ((numSum (ps.take k) : Nat) + (nm.length : Int)) = ((numSum (ps.take (k + 1)) : Nat) : Int) := by
        rw [HS.out]
        rw [IntWalk.i64_in _ ⟨by omega, by omega⟩]
        simp
      have hle2 : numSum (ps.take (k + 1)) ≤ 17 * (k + 1) := by rw [HS.out]; omega
      clear hrow7 hb7 hIc
      go_wp2_with fail
      go_roundw
      case rel => exact ⟨k + 1, by omega, by go_num, rfl, hle2, hb8⟩
      case measure => simp [intOf]; omega
    · obtain rfl : k = ps.length := by omega
      rw [List.take_length] at hle
      rw [List.take_length]
      have hsum2 := HSUM.out
      have hempty : (zs.length = 0 ↔ ps.length = 0) := by
        constructor
        · intro h
          have h1 : zs = [] := List.eq_nil_of_length_eq_zero h
          have h2 := HPS.out
          rw [h1] at h2
          rw [← h2]
          rfl
        · intro h
          have h1 : ps = [] := List.eq_nil_of_length_eq_zero h
          rw [h1] at hsum2
          have h3 : (dist zs).length = 0 := by simpa [numSum] using hsum2.symm
          have h4 : dist zs = [] := List.eq_nil_of_length_eq_zero h3
          cases hzs : zs with
          | nil => rfl
          | cons y ys =>
            exfalso
            have h5 := (mem_dist zs y).2 (by rw [hzs]; simp)
            rw [h4] at h5
            cases h5
      have hle3 := HLE.out
      generalize numSum ps = tot at hle hsum2 ⊢
      have HEM := Lib.hid hempty
      have HS2 := Lib.hid hsum2
      clear hempty hsum2 hIn hRd HOK HSUM HLE
      obtain ⟨i0, hi, hz0, hz1, hz2⟩ := info_parts info64
      go_wp2_with fail
      go_loopw [8, 42] (fun v zi wr => ∃ k : Nat, k ≤ zs.length ∧ zi = .int .i64 k ∧ wr.ownsRow w4.heap.size 3 1 v (dist (zs.take k)).length ((dist (zs.take k)).map (Value.int .i64)) ∧ Below w4.heap.size w4 wr)
        (fun _ zi _ => zs.length - (intOf zi).toNat)
      case atStart => exact ⟨0, Nat.zero_le _, rfl, World.ownsRow_nil _ _ _ _, hbk⟩
      case round =>
        clear hbk
        obtain ⟨k, hk2, rfl, hown, hb⟩ := hrel
        have hown0 := hown
        obtain ⟨av, cv, rfl, _, hcv1, hcv2, hrv⟩ := own_reads hown0
        have hdl := dist_len_take zs k
        by_cases hlt2 : k < zs.length
        · obtain ⟨b, off, rfl, hcell⟩ := (hrI.out wr hb).at hlt2
          have hds := Lib.hid (dist_succ zs k hlt2)
          generalize zs[k]?.getD 0 = x at hcell hds
          have hIq := fun r h => in_any (dist (zs.take k)) x av cv wr hrv (by omega) r h
          generalize dist (zs.take k) = dd at *
          cases hcc : dd.contains x
          · have hIc := Lib.hid (hIq false hcc)
            have HD : Hid (dist (zs.take (k + 1)) = dd ++ [x]) := Lib.hid (by rw [hds.out, addNew_new hcc])
            clear hIq hcc hds hrv hown0
            go_wp2_with fail
            refine hIc.out.mono ?_
            rintro e w6 ⟨rfl, rfl⟩
            go_wp2_with (at_builtin; refine append_one (W := w4) rfl _ _ 65 rfl w4.heap.size 3 i0 (.int .i64 0) 8 Try.underlying65 hi hz0 hz1 hz2 rfl _ _ _ rfl hown (.int .i64 x) rfl rfl ?d1 ?d2 w4.heap.size (Nat.le_refl _) hb.size hb ?_)
            case d1 => unfold maxLen; omega
            case d2 => omega
            intro v' w' hown2 hb2
            have H2 : w'.ownsRow w4.heap.size 3 1 v' (dist (zs.take (k + 1))).length ((dist (zs.take (k + 1))).map (Value.int .i64)) := by rw [HD.out]; simpa using hown2
            clear hown2 hown hb
            go_wp2
            go_roundw
            case rel => exact ⟨k + 1, by omega, by go_num, H2, hb2⟩
            case measure => simp [intOf]; omega
          · have hIc := Lib.hid (hIq true hcc)
            have HD : Hid (dist (zs.take (k + 1)) = dd) := Lib.hid (by rw [hds.out, addNew_old hcc])
            clear hIq hcc hds hrv hown0
            go_wp2_with fail
            refine hIc.out.mono ?_
            rintro e w6 ⟨rfl, rfl⟩
            go_wp2_with fail
            go_roundw
            case rel => exact ⟨k + 1, by omega, by go_num, by rw [HD.out]; exact hown, hb⟩
            case measure => simp [intOf]; omega
        · obtain rfl : k = zs.length := by omega
          rw [List.take_length] at hown hrv hown0 hdl ⊢
          have hE := HEM.out
          have hT : tot = (dist zs).length := HS2.out
          subst hT
          have hbz := hw4.trans (hb.mono hsz)
          generalize (dist zs).length = dn at *
          have hle4 : decide ((ps.length : Int) ≤ (dn : Int)) = true := by rw [decide_eq_true_iff]; omega
          clear hown hrv hown0 hrI
          rcases Nat.eq_zero_or_pos zs.length with h0 | h0
          · have h1 := hE.1 h0
            rw [h0, h1] at *
            go_wp2
            go_ret
            exact ⟨rfl, hbz⟩
          · have h1 : 0 < ps.length := by omega
            have b1 : ((zs.length : Int) == 0) = false := by rw [beq_eq_false_iff_ne]; omega
            have b2 : ((ps.length : Int) == 0) = false := by rw [beq_eq_false_iff_ne]; omega
            go_wp2
            go_ret
            exact ⟨rfl, hbz⟩
end nackFewer
end Go.Proofs.Ytfnaanalhcagfaa
