/- NackNumbers: the walk. -/
import Derived.Test.YtfnaanalhcagfaaNkO
import Derived.Test.YtfnaanalhcagfaaNkG
import Derived.Deep.DeepCutAuto
import Derived.Deep.RegionWith
import Derived.Laws.AppendOwnNone
namespace Go.Proofs.Ytfnaanalhcagfaa
open Go.RowKit
set_option linter.unusedVariables false
theorem nkAppend_none {P : Program} {w : World} {ops : Array Oper} {rest : List Oper} {o : Oper} {a : Act} {Q : Exit → Act → World → Prop} (hgd : o.guard = none) (s x : Operand) (t : TypeId)
    (ho : o.op = .call { callee := .builtin .append, args := #[s, x], argTypes := #[t, t] }) (base : Nat) (e : TypeId) (i : TypeInfo) (size : Nat) (ht : P.underlying t = some (.slice e)) (hi : P.info? e = some i)
    (ad : Option Addr) (xs : List Value) (hs : a.eval s = .slice ad 0 0) (hown : w.ownsRow base e size (.slice ad 0 0) 0 xs) (hx : a.eval x = .slice none 0 0)
    (h : ∀ W ad', Hid (W = w ∧ ad' = ad) → wpList P ops Q rest (a.put o.dst (.slice ad' 0 0)) W) : wpList P ops Q (o :: rest) a w :=
  wpList_append_own_none hgd s x t ho base e i size ht hi _ 0 xs hs hown hx (h w ad (Lib.hid ⟨rfl, rfl⟩))
theorem prV_take (l : List (Int × Nat)) (m k : Nat) (u : Value) (h : (prV (l.take m))[k]? = some u) : (prV l)[k]? = some u := by
  have e : prV l = prV (l.take m) ++ prV (l.drop m) := by
    simp only [prV]
    rw [← List.flatMap_append, List.take_append_drop]
  obtain ⟨hk, _⟩ := List.getElem?_eq_some_iff.1 h
  rw [e, List.getElem?_append_left hk]
  exact h
theorem prV_one (l : List (Int × Nat)) : ∀ u ∈ prV l, Value.oneCell' u = true := by
  intro u hu
  simp only [prV, List.mem_flatMap] at hu
  obtain ⟨p, _, hu⟩ := hu
  simp at hu
  rcases hu with rfl | rfl <;> rfl
theorem fold_self (zs : List Int) : ∀ acc : List Int, (acc ++ zs).Nodup → zs.foldl addNew acc = acc ++ zs := by
  induction zs with
  | nil => intro acc _; simp
  | cons z zs ih =>
    intro acc h
    have hz : acc.contains z = false := by
      rw [List.nodup_append] at h
      by_cases hc : acc.contains z = true
      · exact absurd rfl (h.2.2 z (by simpa using hc) z (by simp))
      · simpa using hc
    rw [List.foldl_cons]
    have e : addNew acc z = acc ++ [z] := by unfold addNew; rw [hz]; rfl
    rw [e, ih (acc ++ [z]) (by simpa using h)]
    simp
theorem dist_self (zs : List Int) (h : zs.Nodup) : dist zs = zs := by simpa [dist] using fold_self zs [] (by simpa using h)
theorem rdr_new (W : World) (n : Nat) (hn : n = W.heap.size) (pid : Int) (bb : Nat) : RdR (W.alloc (.cells #[.int .i64 pid, .int .i64 (bb : Int)] 79)) (some ⟨n, 0, none⟩) [(pid, bb)] := by
  subst hn
  have hX := heap_alloc_new W (.cells #[.int .i64 pid, .int .i64 (bb : Int)] 79)
  refine .inr ⟨_, rfl, lt_of_block hX, fun i u hu => ?_⟩
  have := cell_of_row _ _ i _ _ (0, 0) hX
  rw [this]
  simpa [prR] using hu
set_option maxHeartbeats 800000 in
theorem nkSameI_any (zs : List Int) (a a2 : Option Addr) (n c c2 : Nat) (w : World) (hn : n = zs.length) (hr : Reads .i64 w a zs) (hr2 : Reads .i64 w a2 zs) (hl : zs.length ≤ 1000000000) :
    Calls Try.prog 34 #[.slice a n c, .slice a2 n c2] w fun e w' => e = .returned (.bool true) ∧ Below w.heap.size w w' := by
  subst hn
  have HR := Lib.hid (fun W (h : Below w.heap.size w W) => hr.later h)
  have HR2 := Lib.hid (fun W (h : Below w.heap.size w W) => hr2.later h)
  clear hr hr2
  go_enter Try.func34, Try.ntmps34
  go_wp2
  go_loopw [13] (fun i wr => ∃ k : Nat, k ≤ zs.length ∧ i = .int .i64 k ∧ Below w.heap.size w wr) (fun i _ => zs.length - (intOf i).toNat)
  case atStart => exact ⟨0, Nat.zero_le _, rfl, Below.refl _ _⟩
  case round =>
    obtain ⟨k, hk, rfl, hb1⟩ := hrel
    by_cases hlt : k < zs.length
    · obtain ⟨ab, off, rfl, c0⟩ := (HR.out _ hb1).at hlt
      obtain ⟨ab2, off2, rfl, d0⟩ := (HR2.out _ hb1).at hlt
      generalize zs[k]?.getD 0 = p at c0 d0
      have i1 : (k : Int) < (zs.length : Int) := by omega
      go_wp2_with fail
      go_quiet (fail)
      have hb2 := below_drewN hb1 nq
      go_wp2
      go_roundw
      case rel => exact ⟨k + 1, by omega, by go_num, hb2⟩
      case measure => simp [intOf]; omega
    · obtain rfl : k = zs.length := by omega
      go_wp2
      go_ret
      exact ⟨rfl, hb1⟩
namespace nackNumbers
set_option maxRecDepth 100000 in
set_option maxHeartbeats 6400000 in
theorem walk (f b : Int) (l : List (Int × Nat)) (a : Option Addr) (c : Nat) (hb : ∀ p ∈ l, 0 ≤ p.1 ∧ p.1 < 65536 ∧ p.2 < 65536) (hlc : l.length ≤ c) (hcm : c ≤ 9223372036854775807) (ha : (a = none ∧ l.length = 0 ∧ c = 0) ∨ ∃ g off, a = some ⟨g, off, none⟩) (w : World) (hr : RdO w a l) :
    Calls Try.prog 6 #[.agg #[.int .u32 f, .int .u32 b, .slice a l.length c]] w fun e w' => e = .returned (.bool true) ∧ Below w.heap.size w w' := by
  obtain ⟨i0, hi, hz0, hz1, hz2⟩ := info_parts infoPair
  obtain ⟨m, hm⟩ : ∃ m : Nat, min (l.length : Int) 20 = (m : Int) := ⟨(min (l.length : Int) 20).toNat, by omega⟩
  have hml : (l.take 20).length = m := by rw [List.length_take]; omega
  have hm20 : m ≤ 20 := by omega
  have hmle : m ≤ l.length := by omega
  have htk : l.take 20 = l.take m := by
    rcases Nat.lt_or_ge l.length 20 with h | h
    · rw [List.take_of_length_le (by omega), List.take_of_length_le (by omega)]
    · rw [show m = 20 from by omega]
  have HT := Lib.hid htk
  have HML := Lib.hid hml
  have HB := Lib.hid (fun p (hp : p ∈ l.take 20) => hb p (List.mem_of_mem_take hp))
  clear htk hml hb
  have hX1 := heap_alloc_new w (.cells #[.int .u32 f, .int .u32 b, .slice a l.length c] 68)
  have hb1 : Below w.heap.size w (w.alloc (.cells #[.int .u32 f, .int .u32 b, .slice a l.length c] 68)) := (Below.refl _ _).alloc (Nat.le_refl _) _
  have HR := Lib.hid (fun W (h : Below w.heap.size w W) => hr.later h)
  clear hr
  go_enter Try.func6, Try.ntmps6
  go_upto_region 1 with fail
  generalize w.alloc (.cells #[.int .u32 f, .int .u32 b, .slice a l.length c] 68) = w3 at hX1 hb1 ⊢
  obtain ⟨g, hg⟩ : ∃ g, w.heap.size = g := ⟨_, rfl⟩
  have HG := Lib.hid hg
  rw [hg] at hX1 hb1 HR ⊢
  clear hg
  have hg3 := lt_of_block hX1
  go_wp2_with fail
  refine (nkAwake_any _).mono ?_
  rintro e w4 ⟨rfl, hb4⟩
  have hX4 : w4.heap[g]? = some (Obj.cells #[.int .u32 f, .int .u32 b, .slice a l.length c] 68 (0, 0)) := by rw [hb4.block g hg3]; exact hX1
  have hbb4 := hb1.trans (hb4.mono (by omega))
  clear hX1 hb1 hb4 hg3
  have hg4 := lt_of_block hX4
  go_upto_region 3 with fail
  go_cut [] (fun wx => ∃ a' c', wx.heap[g]? = some (Obj.cells #[.int .u32 f, .int .u32 b, .slice a' m c'] 68 (0, 0)) ∧ m ≤ c' ∧ RdP wx a' (l.take 20) ∧ Below g w wx)
  case first =>
    have hA0 : (w4.alloc (.cells #[] 75)).heap[w4.heap.size]? = some (Obj.cells #[] 75 (0, 0)) := heap_alloc_new _ _
    have hv0 := own_made0 (s := 2) (B := g) (by omega) hA0
    have hX5 := heap_at_old w4 (.cells #[] 75) _ _ hX4
    have hb5 := hbb4.alloc (by omega) (.cells #[] 75)
    have x2 : w4.cell? ⟨g, 2, none⟩ = some (.slice a l.length c) := by have := cell_of_row _ _ 2 _ _ (0, 0) hX4; exact this
    have y2 : (w4.alloc (.cells #[] 75)).cell? ⟨g, 2, none⟩ = some (.slice a l.length c) := by have := cell_of_row _ _ 2 _ _ (0, 0) hX5; exact this
    clear hA0
    rcases ha with ⟨rfl, hl0, rfl⟩ | ⟨b0, off, rfl⟩
    · obtain rfl : l = [] := List.length_eq_zero_iff.1 hl0
      obtain rfl : m = 0 := by simp at hmle; exact hmle
      simp only [List.length_nil] at *
      have hmm : min (0 : Int) 20 = 0 := by decide
      go_wp2_with (at_builtin; refine nkAppend_none rfl (.tmp 7) (.tmp 14) 59 rfl g 75 i0 2 Try.underlying59 hi _ [] rfl hv0 rfl ?_)
      intro w6 ad6 Hw
      have hX6 : w6.heap[g]? = some (Obj.cells #[.int .u32 f, .int .u32 b, .slice none 0 0] 68 (0, 0)) := by rw [Hw.out.1]; exact hX5
      have hb6 : Below g w w6 := by rw [Hw.out.1]; exact hb5
      clear hv0 hX5 hb5 Hw x2 y2 hX4 hbb4
      have x2 : w6.cell? ⟨g, 2, none⟩ = some (.slice none 0 0) := by have := cell_of_row _ _ 2 _ _ (0, 0) hX6; exact this
      have f2 : w6.frozen? ⟨g, 2, none⟩ = false := by simp [World.frozen?, hX6]
      have hX7 : (w6.setCell ⟨g, 2, none⟩ (.slice ad6 0 0)).heap[g]? = some (Obj.cells #[.int .u32 f, .int .u32 b, .slice ad6 0 0] 68 (0, 0)) := block_setCell hX6
      have hb7 := hb6.setCell (p := ⟨g, 2, none⟩) (Nat.le_refl _) (.slice ad6 0 0)
      go_wp2_with fail
      go_meet
      exact ⟨ad6, 0, hX7, Nat.le_refl _, .inl rfl, hb7⟩
    · have hpm : (0 : Int) ≤ (m : Int) := by omega
      have hpm2 : (m : Int) ≤ (c : Int) := by omega
      have hnews : ∀ k u, (prV (l.take m))[k]? = some u → (w4.alloc (.cells #[] 75)).cell? ((⟨b0, off, none⟩ : Addr).add k) = some u := by
        intro k u hk
        rcases HR.out _ hb5 with h | ⟨b', off', ha, hc⟩
        · subst h; simp [prV] at hk
        · cases ha
          rw [Go.WideShapes.add_plain]
          exact hc k u (prV_take l m k u hk)
      have hnl : (prV (l.take m)).length = m * 2 := by rw [prV_len, List.length_take, Nat.min_eq_left hmle]
      have hone := prV_one (l.take m)
      go_wp2_with (at_builtin; refine wpList_append_own _ rfl (.tmp 7) (.tmp 14) 59 rfl g 75 i0 (.agg #[.int .u16 0, .int .u16 0]) 2 4 Try.underlying59 hi hz0 hz1 hz2 rfl (by decide) _ 0 [] rfl hv0 ⟨b0, off, none⟩ m c (prV (l.take m)) rfl hnl hnews hone ?d4 ?d5 ?d6 ?_)
      case d4 => unfold maxLen; omega
      case d5 => omega
      case d6 => simp; omega
      intro v' w6 hown hgrow _
      have hown2 : w6.ownsRow g 75 2 v' m (prV (l.take 20)) := by
        rw [HT.out]
        simpa using hown
      have hX6 := keep_blk hX5 hv0 (by decide) hgrow
      have hb6 : Below g w w6 := hb5.grown hgrow (by have := lt_of_block hX5; omega) (fun k hk => (hv0.lt k hk).1)
      clear hv0 hX5 hb5 hown hgrow hnews hnl hone x2 y2 hX4 hbb4
      have hne : some g ≠ v'.ownBlock := by
        intro e
        rcases hown2.2 with ⟨rfl, _⟩ | ⟨g', cap', cur', rfl, _, r2, _⟩
        · simp [Value.ownBlock] at e
        · obtain rfl : g = g' := by simpa [Value.ownBlock] using e
          rw [hX6] at r2
          simp at r2
      have hown3 := fun u => row_setn hown2 hne 2 u
      have hv : ∃ a' c', v' = .slice a' m c' ∧ m ≤ c' := by
        have h := hown2
        rw [show m = (l.take 20).length from HML.out.symm] at h
        obtain ⟨a', c', e, h2, _⟩ := own_prs h
        exact ⟨a', c', by rw [e, HML.out], by rw [← HML.out]; exact h2⟩
      obtain ⟨a', c', rfl, hcc⟩ := hv
      have x2 : w6.cell? ⟨g, 2, none⟩ = some (.slice (some ⟨b0, off, none⟩) l.length c) := by have := cell_of_row _ _ 2 _ _ (0, 0) hX6; exact this
      have f2 : w6.frozen? ⟨g, 2, none⟩ = false := by simp [World.frozen?, hX6]
      have hX7 : (w6.setCell ⟨g, 2, none⟩ (.slice a' m c')).heap[g]? = some (Obj.cells #[.int .u32 f, .int .u32 b, .slice a' m c'] 68 (0, 0)) := block_setCell hX6
      have hb7 := hb6.setCell (p := ⟨g, 2, none⟩) (Nat.le_refl _) (.slice a' m c')
      have hO7 : RdP (w6.setCell ⟨g, 2, none⟩ (.slice a' m c')) a' (l.take 20) := by
        have h := hown3 (.slice a' m c')
        rw [show m = (l.take 20).length from HML.out.symm] at h
        obtain ⟨a8, c8, e8, _, h3⟩ := own_prs h
        cases e8
        rw [HML.out] at h3
        exact h3
      clear hown2 hown3 hne
      go_wp2_with fail
      go_meet
      exact ⟨a', c', hX7, hcc, hO7, hb7⟩
  case rest =>
  obtain ⟨a', c', hX5, hcc, hR5, hb5⟩ := hcut
  rename World => w5
  clear hX4 hbb4 hg4 HR ha hlc hcm hm hmle HT hi hz0 hz1 hz2
  obtain ⟨lm, hlm⟩ : ∃ lm, l.take 20 = lm := ⟨_, rfl⟩
  rw [hlm] at hR5 HB HML
  have hml := HML.out
  clear HML hlm
  subst hml
  have hg5 := lt_of_block hX5
  have HX5 := Lib.hid (fun (W : World) (h : Below w5.heap.size w5 W) => (show W.heap[g]? = some (Obj.cells #[.int .u32 f, .int .u32 b, .slice a' lm.length c'] 68 (0, 0)) from by rw [h.block g hg5]; exact hX5))
  have HRd := Lib.hid (fun (W : World) (h : Below w5.heap.size w5 W) => hR5.later h)
  have x2 : w5.cell? ⟨g, 2, none⟩ = some (.slice a' lm.length c') := by have := cell_of_row _ _ 2 _ _ (0, 0) hX5; exact this
  clear hR5 hX5
  go_wp2_with fail
  go_loopw [20] (fun zi wr => ∃ k : Nat, k ≤ lm.length ∧ zi = .int .i64 k ∧ Below w5.heap.size w5 wr) (fun zi _ => lm.length - (intOf zi).toNat)
  case atStart => exact ⟨0, Nat.zero_le _, rfl, Below.refl _ _⟩
  case round =>
    obtain ⟨k, hk, rfl, hbk⟩ := hrel
    clear x2
    by_cases hlt : k < lm.length
    · obtain ⟨g1, rfl, hg1, hc0, hc1⟩ := (HRd.out wr hbk).at hlt
      have hmem : lm[k]?.getD (0, 0) ∈ lm := by rw [List.getElem?_eq_getElem hlt]; exact List.getElem_mem hlt
      obtain ⟨p0, p1, p2⟩ := HB.out _ hmem
      generalize lm[k]?.getD (0, 0) = pr at hc0 hc1 p0 p1 p2
      clear hmem
      obtain ⟨pid, bb⟩ := pr
      simp only at hc0 hc1 p0 p1 p2
      have hX := heap_alloc_new wr (.cells #[.int .u16 pid, .int .u16 (bb : Int)] 75)
      have hb6 := hbk.alloc hbk.size (.cells #[.int .u16 pid, .int .u16 (bb : Int)] 75)
      go_upto_region 7 with fail
      generalize wr.alloc (.cells #[.int .u16 pid, .int .u16 (bb : Int)] 75) = w6 at hX hb6 ⊢
      generalize wr.heap.size = gp at hX ⊢
      clear hc0 hc1 hg1 hbk
      have hgp := lt_of_block hX
      have HX := Lib.hid (fun (W : World) (h : Below w6.heap.size w6 W) => (show W.cell? ⟨gp, 0, none⟩ = some (.int .u16 pid) ∧ W.cell? ⟨gp, 1, none⟩ = some (.int .u16 (bb : Int)) from by
        have e : W.heap[gp]? = some (Obj.cells #[.int .u16 pid, .int .u16 (bb : Int)] 75 (0, 0)) := by rw [h.block gp hgp]; exact hX
        exact ⟨by have := cell_of_row _ _ 0 _ _ (0, 0) e; exact this, by have := cell_of_row _ _ 1 _ _ (0, 0) e; exact this⟩))
      have hnl := nums_len pid bb 16
      have hself := dist_self _ (nums_nodup pid bb p0 p1 16 (Nat.le_refl _))
      have hcat : catN [(pid, bb)] = nums pid bb 16 := by simp [catN]
      have hF := fun (W : World) (q : Option Addr) (hq : RdR W q [(pid, bb)]) => refNumbers_any [(pid, bb)] q 1 W hq (by simp) (fun p hp => by rw [List.mem_singleton.1 hp]; exact ⟨p0, p1, p2⟩)
      rw [hcat, hself] at hF
      have hwf := fun y hy => nums_wf pid bb p0 p1 y hy
      have HN := Lib.hid (fun W => numbers_any pid bb p0 p1 p2 W)
      generalize nums pid bb 16 = nm at *
      have HF := Lib.hid hF
      have HI := Lib.hid (fun (W : World) (q : Option Addr) (cq : Nat) (hq : Reads .u16 W q nm) => ints_any nm q cq W hq (by omega) (fun n hn => by have := hwf n hn; omega))
      have HS := Lib.hid (fun (W : World) (q1 q2 : Option Addr) (c1 c2 : Nat) (h1 : Reads .i64 W q1 nm) (h2 : Reads .i64 W q2 nm) => nkSameI_any nm q1 q2 nm.length c1 c2 W rfl h1 h2 (by omega))
      have hcp : IntKind.i64.wrap pid = pid := IntWalk.i64_in _ ⟨by omega, by omega⟩
      have hcb : IntKind.i64.wrap (bb : Int) = (bb : Int) := IntWalk.i64_in _ ⟨by omega, by omega⟩
      clear hF hwf hself hcat hX hnl
      obtain ⟨d0, d1⟩ := HX.out w6 (Below.refl _ _)
      have hd6 : Below w6.heap.size w6 w6.drew := by go_grown
      go_cut [37] (fun z wx => z = .bool false ∧ Below w6.heap.size w6 wx)
      case first =>
        go_region_law (first
          | (go_simp; go_at_call 35; first
              | (refine (HN.out w6.drew).mono ?_; rintro e w7 ⟨v7, rfl, hrow7, hb7⟩; obtain ⟨a7, c7, rfl, _, _, _, hr7⟩ := own_reads hrow7; have hh7 := hd6.trans hb7; clear hrow7; obtain ⟨_, _⟩ := HX.out _ hh7)
              | (refine (HN.out (w6.drew.alloc (.cells #[.int .i64 pid, .int .i64 (bb : Int)] 79))).mono ?_; rintro e w7 ⟨v7, rfl, hrow7, hb7⟩; obtain ⟨a7, c7, rfl, _, _, _, hr7⟩ := own_reads hrow7; have hh7 := (hd6.alloc hd6.size (.cells #[.int .i64 pid, .int .i64 (bb : Int)] 79)).trans (hb7.mono (hd6.alloc hd6.size (.cells #[.int .i64 pid, .int .i64 (bb : Int)] 79)).size); have hq7 := (rdr_new w6.drew w6.heap.size rfl pid bb).later hb7; clear hrow7; obtain ⟨_, _⟩ := HX.out _ hh7))
          | (go_simp; go_at_call 30; first
              | (refine (HI.out _ _ _ hr7).mono ?_; rintro e w8 ⟨v8, rfl, hrow8, hb8⟩; obtain ⟨a8, c8, rfl, _, _, _, hr8⟩ := own_reads hrow8; have hh8 := hh7.trans (hb8.mono hh7.size); (try have hq8 := hq7.later hb8); clear hrow8; obtain ⟨_, _⟩ := HX.out _ hh8)
              | (refine (HI.out (w7.alloc (.cells #[.int .i64 pid, .int .i64 (bb : Int)] 79)) _ _ (hr7.later ((Below.refl _ w7).alloc (Nat.le_refl _) (.cells #[.int .i64 pid, .int .i64 (bb : Int)] 79)))).mono ?_; rintro e w8 ⟨v8, rfl, hrow8, hb8⟩; obtain ⟨a8, c8, rfl, _, _, _, hr8⟩ := own_reads hrow8; have hh8 := (hh7.alloc hh7.size (.cells #[.int .i64 pid, .int .i64 (bb : Int)] 79)).trans (hb8.mono (hh7.alloc hh7.size (.cells #[.int .i64 pid, .int .i64 (bb : Int)] 79)).size); have hq8 := (rdr_new w7 _ rfl pid bb).later hb8; clear hrow8; obtain ⟨_, _⟩ := HX.out _ hh8))
          | (go_simp; go_at_call 36; first
              | (refine (HF.out _ _ hq8).mono ?_; rintro e w9 ⟨v9, rfl, hrow9, hb9⟩; obtain ⟨a9, c9, rfl, _, _, _, hr9⟩ := own_reads hrow9; have hh9 := hh8.trans (hb9.mono hh8.size); have hr89 := hr8.later hb9; clear hrow9)
              | (refine (HF.out (w8.alloc (.cells #[.int .i64 pid, .int .i64 (bb : Int)] 79)) _ (rdr_new w8 _ rfl pid bb)).mono ?_; rintro e w9 ⟨v9, rfl, hrow9, hb9⟩; obtain ⟨a9, c9, rfl, _, _, _, hr9⟩ := own_reads hrow9; have hh9 := (hh8.alloc hh8.size (.cells #[.int .i64 pid, .int .i64 (bb : Int)] 79)).trans (hb9.mono (hh8.alloc hh8.size (.cells #[.int .i64 pid, .int .i64 (bb : Int)] 79)).size); have hr89 := hr8.later (((Below.refl _ w8).alloc (Nat.le_refl _) (.cells #[.int .i64 pid, .int .i64 (bb : Int)] 79)).trans (hb9.mono (by simp))); clear hrow9))
          | (go_simp; go_at_call 34; refine (HS.out _ _ _ _ _ hr89 hr9).mono ?_; rintro e w10 ⟨rfl, hb10⟩; have hh10 := hh9.trans (hb10.mono hh9.size)))
        all_goals
          go_wp2_with fail
          go_meet
          exact ⟨by simp, hh10⟩
      case rest =>
      obtain ⟨rfl, hb7⟩ := hcut
      rename World => w7
      have hb8 := hb6.trans (hb7.mono hb6.size)
      go_wp2_with fail
      go_roundw
      case rel => exact ⟨k + 1, by omega, by go_num, hb8⟩
      case measure => simp [intOf]; omega
    · obtain rfl : k = lm.length := by omega
      have hbw := hb5.trans (hbk.mono (by omega))
      have hX := HX5.out _ hbk
      have hRw := Lib.hid (HRd.out _ hbk)
      obtain ⟨cn, hcn⟩ : ∃ cn, dist (catN lm) = cn := ⟨_, rfl⟩
      have hcl : cn.length ≤ 400 := by have h1 := dist_len (catN lm); have h2 := catN_len lm; rw [hcn] at h1; omega
      have HCB := Lib.hid (fun y (hy : y ∈ cn) => (show 0 ≤ y ∧ y ≤ 65535 from by have h1 := catN_wf lm HB.out y ((mem_dist _ y).1 (by rw [hcn]; exact hy)); omega))
      have hN := fun (W : World) (h : Below wr.heap.size wr W) => nackNumbers_any lm f b a' c' W (hRw.out.later h) (by omega) HB.out
      have hT := fun (W : World) (h : Below wr.heap.size wr W) => nkTold_any lm a' c' W (hRw.out.later h) (by omega) HB.out
      have hF := fun (W : World) (q : Option Addr) (cq : Nat) (hq : RdR W q lm) => refNumbers_any lm q cq W hq (by omega) HB.out
      rw [hcn] at hN hF
      have HN := Lib.hid hN
      have HT := Lib.hid hT
      have HF := Lib.hid hF
      have HI := Lib.hid (fun (W : World) (q : Option Addr) (cq : Nat) (hq : Reads .u16 W q cn) => ints_any cn q cq W hq (by omega) HCB.out)
      have HS := Lib.hid (fun (W : World) (q1 q2 : Option Addr) (c1 c2 : Nat) (h1 : Reads .i64 W q1 cn) (h2 : Reads .i64 W q2 cn) => nkSameI_any cn q1 q2 cn.length c1 c2 W rfl h1 h2 (by omega))
      have hgr := lt_of_block hX
      have HX := Lib.hid (fun (W : World) (h : Below wr.heap.size wr W) => (show W.cell? ⟨g, 0, none⟩ = some (.int .u32 f) ∧ W.cell? ⟨g, 1, none⟩ = some (.int .u32 b) ∧ W.cell? ⟨g, 2, none⟩ = some (.slice a' lm.length c') from by
        have e : W.heap[g]? = some (Obj.cells #[.int .u32 f, .int .u32 b, .slice a' lm.length c'] 68 (0, 0)) := by rw [h.block g hgr]; exact hX
        exact ⟨by have := cell_of_row _ _ 0 _ _ (0, 0) e; exact this, by have := cell_of_row _ _ 1 _ _ (0, 0) e; exact this, by have := cell_of_row _ _ 2 _ _ (0, 0) e; exact this⟩))
      obtain ⟨d0, d1, d2⟩ := HX.out wr (Below.refl _ _)
      have hd6 : Below wr.heap.size wr wr.drew := by go_grown
      clear hN hT hF hcn hX HX5 HRd
      have hwg := HG.out
      subst hwg
      go_upto_region 10 with fail
      go_region_law (first
          | (go_simp; go_at_call 32; refine (HN.out _ hd6).mono ?_; rintro e w7 ⟨v7, rfl, hrow7, hb7⟩; obtain ⟨a7, c7, rfl, _, _, _, hr7⟩ := own_reads hrow7; have hh7 := hd6.trans hb7; clear hrow7; obtain ⟨_, _, _⟩ := HX.out _ hh7)
          | (go_simp; go_at_call 30; refine (HI.out _ _ _ hr7).mono ?_; rintro e w8 ⟨v8, rfl, hrow8, hb8⟩; obtain ⟨a8, c8, rfl, _, _, _, hr8⟩ := own_reads hrow8; have hh8 := hh7.trans (hb8.mono hh7.size); clear hrow8; obtain ⟨_, _, _⟩ := HX.out _ hh8)
          | (go_simp; go_at_call 28; refine (HT.out _ hh8).mono ?_; rintro e w9 ⟨v9, rfl, hrow9, hb9⟩; obtain ⟨a9, c9, rfl, _, hr9⟩ := own_prR hrow9; have hh9 := hh8.trans (hb9.mono hh8.size); have hr89 := hr8.later hb9; clear hrow9)
          | (go_simp; go_at_call 36; refine (HF.out _ _ _ hr9).mono ?_; rintro e w10 ⟨v10, rfl, hrow10, hb10⟩; obtain ⟨a10, c10, rfl, _, _, _, hr10⟩ := own_reads hrow10; have hh10 := hh9.trans (hb10.mono hh9.size); have hr810 := hr89.later hb10; clear hrow10)
          | (go_simp; go_at_call 34; refine (HS.out _ _ _ _ _ hr810 hr10).mono ?_; rintro e w11 ⟨rfl, hb11⟩; have hh11 := hh10.trans (hb11.mono hh10.size)))
      all_goals
        go_wp2_with fail
        go_ret
        exact ⟨rfl, hbw.trans (hh11.mono hbw.size)⟩
end nackNumbers
end Go.Proofs.Ytfnaanalhcagfaa
