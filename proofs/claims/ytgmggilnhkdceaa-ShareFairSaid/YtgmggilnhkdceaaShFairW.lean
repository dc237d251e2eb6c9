/- ShareFair: the walk. -/
import Derived.Test.YtgmggilnhkdceaaShFairM
namespace Go.Proofs.Ytgmggilnhkdceaa
open Go.RowKit
set_option linter.unusedVariables false
set_option linter.unusedSimpArgs false
theorem row_other {W W' : World} {B B2 e e2 m m2 n n2 : Nat} {v v2 : Value} {xs xs2 : List Value} (h : W.ownsRow B e m v n xs) (h2 : W.ownsRow B2 e2 m2 v2 n2 xs2) (hg : W.grownBy W' v2.ownBlock) (hne : e ≠ e2) : W'.ownsRow B e m v n xs :=
  row_keepT h (fun k cs hk => by rw [hg.block k (lt_of_block hk) (row_neL h2 hk hne)]; exact hk)
theorem at1_other {W W' : World} {B2 e2 m2 n2 g : Nat} {T : TypeId} {v v2 : Value} {xs2 : List Value} (h : At1 T W g v) (h2 : W.ownsRow B2 e2 m2 v2 n2 xs2) (hg : W.grownBy W' v2.ownBlock) (hne : T ≠ e2) : At1 T W' g v := by
  unfold At1 at h ⊢
  rw [hg.block g (lt_of_block h) (row_neL h2 h hne)]
  exact h
theorem sh_readsI {w : World} {g : Nat} {a : Option Addr} {c : Nat} {zs : List Int} (h : w.ownsRow g 3 1 (.slice a zs.length c) zs.length (zs.map (Value.int .i64))) : Reads .i64 w a zs := by
  obtain ⟨a', c', e, _, _, _, hr⟩ := own_reads h
  cases e
  exact hr
theorem row_kb {W W' : World} {B e m n g : Nat} {T : TypeId} {v u : Value} {xs : List Value} (h : W.ownsRow B e m v n xs) (hk : KB W.heap.size g W W') (hg : At1 T W g u) (hT : T ≠ e) : W'.ownsRow B e m v n xs :=
  row_keepT h (fun k cs hc => by
    rw [hk k (lt_of_block hc) (fun e' => by subst e'; unfold At1 at hg; rw [hg] at hc; simp only [Option.some.injEq, Obj.cells.injEq] at hc; exact hT hc.2.1)]
    exact hc)
theorem row_but {W W' : World} {B B2 e e2 m m2 n n2 : Nat} {v v2 : Value} {xs xs2 : List Value} (h : W.ownsRow B e m v n xs) (h2 : W.ownsRow B2 e2 m2 v2 n2 xs2) (hk : ∀ k, k < W.heap.size → v2.ownBlock ≠ some k → W'.heap[k]? = W.heap[k]?) (hne : e ≠ e2) : W'.ownsRow B e m v n xs :=
  row_keepT h (fun k cs hc => by rw [hk k (lt_of_block hc) (fun e' => row_neL h2 hc hne e'.symm)]; exact hc)
theorem row_form {W : World} {B e m n : Nat} {v : Value} {xs : List Value} (h : W.ownsRow B e m v n xs) : ∃ a c, v = .slice a n c := by
  rcases h.2 with ⟨rfl, h0⟩ | ⟨g, cap, cur, rfl, _⟩
  · exact ⟨none, 0, by rw [h0]⟩
  · exact ⟨_, _, rfl⟩
theorem info_intS : (Try.prog.info? 3).map (fun i => (i.zero, i.size, i.bytes)) = some (some (.int .i64 0), 1, 8) := by kernel_rfl
namespace shareFair
set_option maxRecDepth 100000 in
set_option maxHeartbeats 6400000 in
theorem walk (p0 : Option Addr) (len0 cap0 : Nat) (z0 : List Int) (p1 : Option Addr) (len1 cap1 : Nat) (z1 : List Int) (w : World) (hrow0 : IsRow .i64 w p0 len0 cap0 z0) (hrow1 : IsRow .i64 w p1 len1 cap1 z1) :
    Calls Try.prog 4 #[.slice p0 len0 cap0, .slice p1 len1 cap1] w fun e w' => e = .returned (.bool true) ∧ Below w.heap.size w w' := by
  obtain ⟨es, rfl, l1, l2, hr0, hwf0⟩ := hrow0.reads
  obtain ⟨fs, rfl, m1, m2, hr1, hwf1⟩ := hrow1.reads
  clear hrow0 hrow1 hwf0 hwf1
  have HR0 := Lib.hid (fun (W : World) (h : Below w.heap.size w W) => hr0.later h)
  have HR1 := Lib.hid (fun (W : World) (h : Below w.heap.size w W) => hr1.later h)
  have HA := Lib.hid (fun W => shAwake_any W)
  have HN := Lib.hid (fun W => shNew_any W)
  have hm : ∀ z : Int, bits .and .i64 z 4095 = z % 4096 := fun z => i64_mask z 12 (by omega)
  have hm' : ∀ z : Int, bits .and .i64 z 2047 = z % 2048 := fun z => i64_mask z 11 (by omega)
  obtain ⟨i0, hi, hz0, hz1, hz2⟩ := info_parts info_weight
  obtain ⟨j0, hj, hy0, hy1, hy2⟩ := info_parts info_intS
  clear hr0 hr1
  go_enter Try.func4, Try.ntmps4
  go_wp2_with fail
  refine (HA.out _).mono ?_
  rintro e w1 ⟨rfl, hk1⟩
  go_wp2_with fail
  refine (HN.out _).mono ?_
  rintro e w2 ⟨rfl, hS2, hk2⟩
  have hb2 := hk1.trans (hk2.mono hk1.size)
  have hgs := hS2.lt
  have hBw := hk1.size
  have hsz2 := Nat.le_refl w2.heap.size
  generalize hB : w2.heap.size = B at hgs
  have hszB : B ≤ w2.heap.size := by omega
  generalize w1.heap.size = gs at hS2 hgs hBw ⊢
  clear hk1 hk2 HA HN hsz2
  go_upto_block 0 with fail
  go_cut [6, 7, 8] (fun l may sum wx => ∃ n : Nat, n ≤ 6 ∧ sum = .int .i64 (sumF 4096 es n) ∧ wx.ownsRow B 37 2 l n (whV (wsF 4096 es n)) ∧ wx.ownsRow B 3 1 may n ((mayF n).map (Value.int .i64)) ∧ At1 94 wx gs (.slice none 0 0) ∧ Below w.heap.size w wx ∧ B ≤ wx.heap.size)
  case first =>
    go_wp2_with fail
    go_loopw [6, 7, 8, 9] (fun l may sum i wr => ∃ k : Nat, k ≤ es.length ∧ k ≤ 6 ∧ i = .int .i64 k ∧ sum = .int .i64 (sumF 4096 es k) ∧ wr.ownsRow B 37 2 l k (whV (wsF 4096 es k)) ∧ wr.ownsRow B 3 1 may k ((mayF k).map (Value.int .i64)) ∧ At1 94 wr gs (.slice none 0 0) ∧ Below w.heap.size w wr ∧ B ≤ wr.heap.size) (fun _ _ _ i _ => es.length - (intOf i).toNat)
    case atStart => exact ⟨0, Nat.zero_le _, by decide, rfl, rfl, World.ownsRow_nil _ _ _ _, World.ownsRow_nil _ _ _ _, hS2, hb2, hszB⟩
    case round =>
      obtain ⟨k, hk, hk6, rfl, rfl, hL, hM, hS, hb, hsz⟩ := hrel
      clear hS2 hb2 hszB
      obtain ⟨al, cl, rfl⟩ := row_form hL
      obtain ⟨am, cm, rfl⟩ := row_form hM
      by_cases hlt : k < es.length ∧ k < 6
      · obtain ⟨h1, h2⟩ := hlt
        obtain ⟨b0, o0, rfl, hc0⟩ := readsI_at (HR0.out wr hb) h1
        have hq := wqF_bd 4096 es k (by decide)
        have hs := sumF_bd 4096 es (by decide) k
        have hwq : wqF 4096 es k = 1 + es[k]?.getD 0 % 4096 := rfl
        have HW : Hid (wsF 4096 es (k + 1) = wsF 4096 es k ++ [(1 + (k : Int), wqF 4096 es k)]) := Lib.hid rfl
        have HM : Hid (mayF (k + 1) = mayF k ++ [1 + (k : Int)]) := Lib.hid rfl
        have HS : Hid (sumF 4096 es (k + 1) = sumF 4096 es k + wqF 4096 es k) := Lib.hid rfl
        generalize hqq : wqF 4096 es k = q at hq hwq HW HS
        have hw1 : IntKind.i64.wrap (1 + (k : Int)) = 1 + (k : Int) := IntWalk.i64_in _ ⟨by omega, by omega⟩
        have hw2 : IntKind.i64.wrap (1 + es[k]?.getD 0 % 4096) = q := by rw [← hwq]; exact IntWalk.i64_in _ ⟨by omega, by omega⟩
        have hw3 : IntKind.i64.wrap (sumF 4096 es k + q) = sumF 4096 es k + q := IntWalk.i64_in _ ⟨by omega, by omega⟩
        have hbk : b0 < wr.heap.size ∧ wr.heap.size = wr.heap.size := ⟨by
          unfold World.cell? at hc0
          by_cases h : b0 < wr.heap.size
          · exact h
          · simp [Array.getElem?_eq_none (Nat.le_of_not_lt h)] at hc0, rfl⟩
        have HC := Lib.hid (fun W h => readsI_at (HR0.out W h) h1)
        generalize es[k]?.getD 0 = zk at hc0 hwq hw2 HC
        subst hwq
        have g1 : (0 : Int) ≤ (k : Int) := by omega
        have g2 : (k : Int) < (es.length : Int) := by omega
        have g3 : (k : Int) < 6 := by omega
        go_wp2_with (at_builtin; refine append_recS (w := wr) rfl (.tmp 33) (.tmp 43) 35 rfl B 37 i0 (.agg #[.int .i64 0, .int .i64 0]) 2 16 Try.underlying35 hi hz0 hz1 hz2 rfl (by decide) (.slice al k cl) k (whV (wsF 4096 es k)) rfl hL #[.int .i64 (1 + (k : Int)), .int .i64 (1 + zk % 4096)] rfl rfl ?d1 ?d2 ?d3 w.heap.size (by omega) hsz hb ?_)
        case d1 => simp [Value.oneCell']
        case d2 => unfold maxLen; omega
        case d3 => omega
        intro v3 w3 hL3 hb3 hg3
        have hal : Below wr.heap.size wr (wr.alloc (.cells #[.int .i64 (1 + (k : Int)), .int .i64 (1 + zk % 4096)] 37)) := (Below.refl _ _).alloc (Nat.le_refl _) _
        have hM3 := row_other (own_laterS hM hal) (own_laterS hL hal) hg3 (by decide)
        have hS3 := at1_other (hS.later hal) (own_laterS hL hal) hg3 (by decide)
        have hsz3 : B ≤ w3.heap.size := Nat.le_trans hsz (Nat.le_trans hal.size hg3.size)
        have hw5 : w3.ownsRow B 37 2 v3 (k + 1) (whV (wsF 4096 es (k + 1))) := by rw [HW.out, whV_snoc]; exact hL3
        obtain ⟨a3, c3, rfl⟩ := row_form hw5
        clear hL3 hL hM hS hb hsz hg3 hal hc0
        go_wp2_with (at_builtin; refine append_recS (w := w3) rfl (.tmp 45) (.tmp 48) 30 rfl B 3 j0 (.int .i64 0) 1 8 Try.underlying30 hj hy0 hy1 hy2 rfl (by decide) (.slice am k cm) k ((mayF k).map (Value.int .i64)) rfl hM3 #[.int .i64 (1 + (k : Int))] rfl rfl ?d1 ?d2 ?d3 w.heap.size (by omega) hsz3 hb3 ?_)
        case d1 => simp [Value.oneCell']
        case d2 => unfold maxLen; omega
        case d3 => omega
        intro v4 w4 hM4 hb4 hg4
        have hal4 : Below w3.heap.size w3 (w3.alloc (.cells #[.int .i64 (1 + (k : Int))] 3)) := (Below.refl _ _).alloc (Nat.le_refl _) _
        have hL4 := row_other (own_laterS hw5 hal4) (own_laterS hM3 hal4) hg4 (by decide)
        have hS4 := at1_other (hS3.later hal4) (own_laterS hM3 hal4) hg4 (by decide)
        have hsz4 : B ≤ w4.heap.size := Nat.le_trans hsz3 (Nat.le_trans hal4.size hg4.size)
        have hM5 : w4.ownsRow B 3 1 v4 (k + 1) ((mayF (k + 1)).map (Value.int .i64)) := by rw [HM.out, List.map_append]; exact hM4
        obtain ⟨b5, o5, e5, hc5⟩ := HC.out w4 hb4
        cases e5
        clear hM4 hal4 hg4 hb3 hS3 hsz3 hM3 hw5 HC
        go_wp2_with fail
        go_roundw
        case rel => exact ⟨k + 1, by omega, by omega, by go_num, by rw [HS.out], hL4, hM5, hS4, hb4, hsz4⟩
        case measure => simp [intOf]; omega
      · have g1 : (0 : Int) ≤ (k : Int) := by omega
        by_cases h1 : k < es.length
        · have g2 : (k : Int) < (es.length : Int) := by omega
          have g3 : ¬ ((k : Int) < 6) := by omega
          go_wp2_with fail
          go_meet
          exact ⟨k, hk6, rfl, hL, hM, hS, hb, hsz⟩
        · have g2 : ¬ ((k : Int) < (es.length : Int)) := by omega
          go_wp2_with fail
          go_meet
          exact ⟨k, hk6, rfl, hL, hM, hS, hb, hsz⟩
  case rest =>
  obtain ⟨n, hn6, rfl, hL, hM, hS, hb, hsz⟩ := hcut
  clear hS2 hb2 hszB hi hz0 hz1 hz2 hj hy0 hy1 hy2
  rename World => wx
  obtain ⟨al, cl, rfl, hrl⟩ := own_whRd hL (wsF_len _ _ n).symm
  obtain ⟨am, cm, rfl⟩ := row_form hM
  have HS := Lib.hid (shSet_any (wsF 4096 es n) al n cl gs wx (wsF_len _ _ n).symm hrl (by omega) (wsF_up _ _ n) hS)
  have HI := Lib.hid (FairInv.start 4096 es n (by decide) (by decide))
  clear hrl
  go_wp2_with fail
  refine HS.out.mono ?_
  rintro e w3 ⟨rfl, ⟨v3, hS3, hR3⟩, hb3, hkb⟩
  have hszD : wx.heap.size ≤ w3.heap.size := hb3.size
  have hL3 := row_kb hL hkb hS (by decide)
  have hM3 := row_kb hM hkb hS (by decide)
  have hb4 := hb.trans (hb3.mono hBw)
  rw [wsF_len] at hR3
  have hgD : gs < wx.heap.size := hS.lt
  generalize wx.heap.size = D at hR3 hszD hgD
  generalize decide (0 < n) = bn
  clear hL hM hS hb hb3 hkb HS hsz
  go_wp2_with fail
  go_loopw [10, 11] (fun mv i wr => ∃ (k : Nat) (ls : List SL) (most : Int), k ≤ fs.length ∧ k ≤ 150 ∧ i = .int .i64 k ∧ mv = .int .i64 most ∧ FairInv 4096 es n k most ls ∧ At1 94 wr gs v3 ∧ wr.ownsRow D 104 3 v3 n (shV ls) ∧ wr.ownsRow B 37 2 (.slice al n cl) n (whV (wsF 4096 es n)) ∧ wr.ownsRow B 3 1 (.slice am n cm) n ((mayF n).map (Value.int .i64)) ∧ Below w.heap.size w wr ∧ D ≤ wr.heap.size) (fun _ i _ => fs.length - (intOf i).toNat)
  case atStart => exact ⟨0, _, 0, Nat.zero_le _, by decide, rfl, rfl, HI.out, hS3, hR3, hL3, hM3, hb4, hszD⟩
  case round =>
    obtain ⟨k, ls, most, hk, hk150, rfl, rfl, hI, hS, hR, hL, hM, hb, hsz⟩ := hrel
    clear hS3 hR3 hL3 hM3 hb4 hszD HI
    by_cases hlt : k < fs.length ∧ k < 150
    · obtain ⟨h1, h2⟩ := hlt
      have HIn := Lib.hid hI
      have hlen := hI.len
      obtain ⟨b1, o1, rfl, hc1⟩ := readsI_at (HR1.out wr hb) h1
      generalize fs[k]?.getD 0 = zk at hc1
      have g1 : (0 : Int) ≤ (k : Int) := by omega
      have g2 : (k : Int) < (fs.length : Int) := by omega
      have g3 : (k : Int) < 150 := by omega
      have hz0 : 0 ≤ zk % 2048 := Int.emod_nonneg _ (by decide)
      have hz1 : zk % 2048 ≤ 2047 := by have := Int.emod_lt_of_pos zk (show (0 : Int) < 2048 by decide); omega
      have hm0 := hI.m0
      have hm1 := hI.m1
      have hrm : Reads .i64 wr am (mayF n) := sh_readsI (g := B) (c := cm) (by rw [mayF_len]; exact hM)
      cases ls with
      | nil =>
        have hn0 : n = 0 := by rw [← hlen]; rfl
        subst hn0
        have HP := Lib.hid (shPick_row [] (mayF 0) gs D cm v3 am wr (by decide) hI.ok hS hR hrm (by decide) 0 false rfl)
        clear hrm
        go_wp2_with fail
        refine HP.out.mono ?_
        rintro e w5 ⟨rfl, hk5⟩
        have hI5 := FairInv.none 4096 es (k + 1) (max most (zk % 2048)) (by omega) (by omega)
        have hS5 := hS.later hk5
        have hR5 := own_laterS hR hk5
        have hL5 := own_laterS hL hk5
        have hM5 := own_laterS hM hk5
        have hb5 := hb.trans (hk5.mono hb.size)
        have hsz5 := Nat.le_trans hsz hk5.size
        clear hS hR hL hM hb hsz hk5 HP hc1 hI HIn
        go_wp2_with fail
        go_loopw [102] (fun j wz => j = .int .i64 0 ∧ wz = w5) (fun _ _ => 0)
        case atStart => exact ⟨rfl, rfl⟩
        case round =>
          obtain ⟨rfl, rfl⟩ := hrel
          go_wp2_with fail
          go_roundw
          case rel => exact ⟨k + 1, [], _, by omega, by omega, by go_num, rfl, hI5, hS5, hR5, hL5, hM5, hb5, hsz5⟩
          case measure => simp [intOf]; omega
      | cons x l =>
        have HP := Lib.hid (shPick_row (x :: l) (mayF n) gs D cm v3 am wr (by rw [hlen]; omega) hI.ok hS (by rw [hlen]; exact hR) hrm (by rw [mayF_len]; omega) _ true hI.pick)
        rw [mayF_len] at HP
        clear hrm
        go_wp2_with fail
        refine HP.out.mono ?_
        rintro e w5 ⟨rfl, hk5⟩
        have hS5 := hS.later hk5
        have hR5 := own_laterS hR hk5
        have hL5 := own_laterS hL hk5
        have hM5 := own_laterS hM hk5
        have hb5 := hb.trans (hk5.mono hb.size)
        have hsz5 := Nat.le_trans hsz hk5.size
        have hn1 : 1 ≤ n := by rw [← hlen]; simp
        have hmem : decide ((minS x l).p ∈ (x :: l).map (·.p)) = true := decide_eq_true (List.mem_map_of_mem (f := (·.p)) (minS_mem l x))
        have HCa := Lib.hid (shCarry_any (x :: l) (minS x l).p (zk % 2048) gs D v3 w5 (by rw [hlen]; omega) hI.ok hz0 (by omega) hgD hsz5 hS5 (by rw [hlen]; exact hR5))
        rw [hmem] at HCa
        have hI6 := hI.carry (by omega) (zk % 2048) hz0 hz1
        have n1 : (0 : Int) < (n : Int) := by omega
        generalize carryS (x :: l) (minS x l).p (zk % 2048) = ls at HCa hI6
        clear hS hR hL hM hb hsz hk5 HP hc1 hI HIn hmem
        go_wp2_with fail
        refine HCa.out.mono ?_
        rintro e w6 ⟨rfl, hS6, hR6, hb6, hk6, hs6⟩
        have hL6 := row_but hL5 hR5 hk6 (by decide)
        have hM6 := row_but hM5 hR5 hk6 (by decide)
        have hb7 := hb5.trans (hb6.mono (by omega))
        have hsz6 := Nat.le_trans hsz5 hs6
        have hlen6 := hI6.len
        rw [hlen] at hR6
        have HI6 := Lib.hid hI6
        have hmm0 := hI6.m0
        generalize max most (zk % 2048) = mo at HI6 hI6 hmm0 ⊢
        clear hI6 hS5 hR5 hL5 hM5 hb5 hb6 hk6 hs6 hsz5 HCa hlen
        go_wp2_with fail
        go_loopw [102] (fun j wz => ∃ j' : Nat, j' ≤ n ∧ j = .int .i64 j' ∧ At1 94 wz gs v3 ∧ wz.ownsRow D 104 3 v3 n (shV ls) ∧ wz.ownsRow B 37 2 (.slice al n cl) n (whV (wsF 4096 es n)) ∧ wz.ownsRow B 3 1 (.slice am n cm) n ((mayF n).map (Value.int .i64)) ∧ Below w.heap.size w wz ∧ D ≤ wz.heap.size) (fun j _ => n - (intOf j).toNat)
        case atStart => exact ⟨0, Nat.zero_le _, rfl, hS6, hR6, hL6, hM6, hb7, hsz6⟩
        case round =>
          obtain ⟨j, hj, rfl, hS, hR, hL, hM, hb, hsz⟩ := hrel
          clear hS6 hR6 hL6 hM6 hb7 hsz6
          by_cases hjn : j < n
          · obtain ⟨y, hy, hyw⟩ := HI6.out.at j hjn
            have HQ := Lib.hid (HI6.out.asks hn6 (by omega) j y hy)
            obtain ⟨al', cl', e, hrl⟩ := own_whRd hL (wsF_len _ _ n).symm
            cases e
            rcases hrl with h00 | ⟨gl, rfl, hin⟩
            · have := wsF_len 4096 es n; rw [h00] at this; simp at this; omega
            obtain ⟨_, _⟩ := hin j y.p y.w hyw
            clear hin hy hyw
            have hX := atW_new 37 wr wr.heap.size (.int .i64 y.p) (.int .i64 y.w) rfl
            have hal : Below wr.heap.size wr (wr.alloc (.cells #[.int .i64 y.p, .int .i64 y.w] 37)) := (Below.refl _ _).alloc (Nat.le_refl _) _
            have hS5 := hS.later hal
            have hR5 := own_laterS hR hal
            have hL5 := own_laterS hL hal
            have hM5 := own_laterS hM hal
            have hb5 := hb.trans (hal.mono hb.size)
            have hsz5 := Nat.le_trans hsz hal.size
            have j1 : (0 : Int) ≤ (j : Int) := by omega
            have j2 : (j : Int) < (n : Int) := by omega
            clear hS hR hL hM hb hsz
            go_upto_region 28 with fail
            generalize wr.alloc (.cells #[.int .i64 y.p, .int .i64 y.w] 37) = w8 at hX hal hS5 hR5 hL5 hM5 hb5 hsz5 ⊢
            generalize wr.heap.size = g8 at hX hal ⊢
            clear hal
            have HSS : Hid (∀ W : World, Below w8.heap.size w8 W → W.cell? ⟨g8, 0, none⟩ = some (.int .i64 y.p) ∧ W.cell? ⟨g8, 1, none⟩ = some (.int .i64 y.w)) := Lib.hid (fun W hW => ⟨cell_later hW hX.cells.1, cell_later hW hX.cells.2⟩)
            obtain ⟨q1, q2, q3, q4, q5, q6, q7, q8, q9⟩ := HQ.out
            have HCd : Hid (∀ W : World, Below w8.heap.size w8 W → Calls Try.prog 22 #[.pointer (some ⟨gs, 0, none⟩), .int .i64 y.p] W fun e w' => e = .returned (.int .i64 y.c) ∧ Below W.heap.size W w') := Lib.hid (fun W hW => by
              have := shCarried_row ls y.p gs D v3 W (by rw [hlen6]; omega) HI6.out.ok (hS5.later hW) (by rw [hlen6]; exact own_laterS hR5 hW)
              rw [q1] at this
              exact this)
            have HTt : Hid (∀ W : World, Below w8.heap.size w8 W → Calls Try.prog 23 #[.pointer (some ⟨gs, 0, none⟩)] W fun e w' => e = .returned (.int .i64 (sumCS ls)) ∧ Below W.heap.size W w') := Lib.hid (fun W hW => shTotal_row ls gs D v3 W (by rw [hlen6]; omega) HI6.out.ok (hS5.later hW) (by rw [hlen6]; exact own_laterS hR5 hW))
            have hp8 : Below w8.heap.size w8 w8 := Below.refl _ _
            generalize hA : y.c * sumF 4096 es n = A at q2 q3 q8 q9
            generalize hT : sumCS ls * y.w = T at q4 q5 q8 q9
            generalize hMo : mo * sumF 4096 es n = M at q6 q7 q8 q9
            have hn5 : 0 ≤ (n : Int) - 1 ∧ (n : Int) - 1 ≤ 5 := by omega
            have hMn : 0 ≤ M * ((n : Int) - 1) ∧ M * ((n : Int) - 1) ≤ 5000000000 := ⟨Int.mul_nonneg q6 hn5.1, by have := Int.mul_le_mul q7 hn5.2 hn5.1 (by decide); omega⟩
            have u1 : IntKind.i64.wrap A = A := IntWalk.i64_in _ ⟨by omega, by omega⟩
            have u2 : IntKind.i64.wrap T = T := IntWalk.i64_in _ ⟨by omega, by omega⟩
            have u3 : IntKind.i64.wrap (A - T) = A - T := IntWalk.i64_in _ ⟨by omega, by omega⟩
            have u4 : IntKind.i64.wrap M = M := IntWalk.i64_in _ ⟨by omega, by omega⟩
            have u5 : IntKind.i64.wrap (-(A - T)) = -(A - T) := IntWalk.i64_in _ ⟨by omega, by omega⟩
            have u6 : IntKind.i64.wrap ((n : Int) - 1) = (n : Int) - 1 := IntWalk.i64_in _ ⟨by omega, by omega⟩
            have u7 : max 0 ((n : Int) - 1) = (n : Int) - 1 := by omega
            have u8 : IntKind.i64.wrap (M * ((n : Int) - 1)) = M * ((n : Int) - 1) := IntWalk.i64_in _ ⟨by omega, by omega⟩
            have d1 : ¬ (M < A - T) := by omega
            have d2 : ¬ (M * ((n : Int) - 1) < -(A - T)) := by omega
            clear q1 q2 q3 q4 q5 q6 q7 q8 q9 HQ hn5 hMn
            obtain ⟨_, _⟩ := hX.cells
            clear hX
            go_region_held3 (fun W => W.cell? ⟨g8, 0, none⟩ = some (.int .i64 y.p) ∧ W.cell? ⟨g8, 1, none⟩ = some (.int .i64 y.w)) (first | (go_keep; done) | exact HSS.out _ (Below.drew (Below.refl _ _)) | exact HSS.out _ hkA) (first | (go_at_call 22; refine (HCd.out _ (Below.drew (Below.refl _ _))).mono ?_; rintro e wA ⟨rfl, hk0⟩; have hkA : Below w8.heap.size w8 wA := Below.trans (Below.drew (Below.refl _ _)) hk0) | (go_at_call 23; refine (HTt.out _ (Below.drew (Below.refl _ _))).mono ?_; rintro e wA ⟨rfl, hk0⟩; have hkA : Below w8.heap.size w8 wA := Below.trans (Below.drew (Below.refl _ _)) hk0) | (go_at_call 22; refine (HCd.out _ hkA).mono ?_; rintro e wB ⟨rfl, hk0⟩; have hkA : Below w8.heap.size w8 wB := hkA.trans (hk0.mono hkA.size)) | (go_at_call 23; refine (HTt.out _ hkA).mono ?_; rintro e wB ⟨rfl, hk0⟩; have hkA : Below w8.heap.size w8 wB := hkA.trans (hk0.mono hkA.size)))
            all_goals
              have hS9 := hS5.later hkA
              have hR9 := own_laterS hR5 hkA
              have hL9 := own_laterS hL5 hkA
              have hM9 := own_laterS hM5 hkA
              have hb9 := hb5.trans (hkA.mono hb5.size)
              have hsz9 := Nat.le_trans hsz5 hkA.size
              clear hS5 hR5 hL5 hM5 hb5 hsz5 HSS HCd HTt
              go_wp2_with fail
              go_roundw
              case rel => exact ⟨j + 1, by omega, by go_num, hS9, hR9, hL9, hM9, hb9, hsz9⟩
              case measure => simp [intOf]; omega
          · have j2 : ¬ ((j : Int) < (n : Int)) := by omega
            go_wp2_with fail
            go_roundw
            case rel => exact ⟨k + 1, ls, mo, by omega, by omega, by go_num, rfl, HI6.out, hS, hR, hL, hM, hb, hsz⟩
            case measure => simp [intOf]; omega
    · have g1 : (0 : Int) ≤ (k : Int) := by omega
      by_cases h1 : k < fs.length
      · have g2 : (k : Int) < (fs.length : Int) := by omega
        have g3 : ¬ ((k : Int) < 150) := by omega
        go_wp2_with fail
        go_ret
        exact ⟨rfl, hb⟩
      · have g2 : ¬ ((k : Int) < (fs.length : Int)) := by omega
        go_wp2_with fail
        go_ret
        exact ⟨rfl, hb⟩
end shareFair
end Go.Proofs.Ytgmggilnhkdceaa
