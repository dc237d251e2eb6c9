/- history: what is in memory; sort.Search with a function of history's; where a number is. -/
import Derived.Test.YtaekefedmobfoaaHiM
import Derived.Test.YtaekefedmobfoaaLfB
import Derived.Deep.RegionHeld3
import Derived.Deep.QuietTactic
import Derived.BigQuiet
import Derived.Deep.DeepCutAuto
import Derived.Deep.CutBlock
import Derived.RegionTactic
import Derived.BigRegion
import Derived.Deep.RegionWith
namespace Go.Proofs.Ytaekefedmobfoaa
open Go.RowKit
set_option linter.unusedVariables false
set_option linter.unusedSimpArgs false
/-- Records in memory. -/
def RdR (W : World) (a : Option Addr) (l : List HR) : Prop := ∀ i r, l[i]? = some r → ∃ g off, a = some ⟨g, off, none⟩ ∧ W.cell? ⟨g, off + i * 4, none⟩ = some (.int .i64 r.s) ∧ W.cell? ⟨g, off + i * 4 + 1, none⟩ = some (.int .i64 r.t) ∧ W.cell? ⟨g, off + i * 4 + 2, none⟩ = some (.int .i64 r.p) ∧ W.cell? ⟨g, off + i * 4 + 3, none⟩ = some (.string r.d)
theorem RdR.later {W W' : World} {a : Option Addr} {l : List HR} (h : RdR W a l) (hb : Below W.heap.size W W') : RdR W' a l := fun i r hr => by
  obtain ⟨g, off, e, h0, h1, h2, h3⟩ := h i r hr
  exact ⟨g, off, e, cell_keep h0 hb, cell_keep h1 hb, cell_keep h2 hb, cell_keep h3 hb⟩
theorem OwnE.rdr {W : World} {b : Nat} {e : TypeId} {v : Value} {n : Nat} {l : List HR} (h : OwnE W b e 4 v n (hiV l)) : ∃ a cap, v = .slice a n cap ∧ n ≤ cap ∧ cap ≤ maxLen ∧ l.length = n ∧ RdR W a l := by
  have hn : l.length = n := by have := h.1.1; rw [hiV_len] at this; omega
  rcases h.1.2 with ⟨rfl, h0⟩ | ⟨g, off, cap, rfl, _, _, h1, h2, _, hc⟩
  · refine ⟨none, 0, by rw [h0], by omega, Nat.zero_le _, hn, fun i r hr => ?_⟩
    have := (List.getElem?_eq_some_iff.1 hr).1
    omega
  · refine ⟨_, _, rfl, h1, h2, hn, fun i r hr => ⟨g, off, rfl, ?_⟩⟩
    have f := fun j u hj => hc _ u (rowsV_at HR.cs_len l i r hr j u hj)
    refine ⟨?_, ?_, ?_, ?_⟩
    · exact f 0 _ rfl
    · rw [Nat.add_assoc]; exact f 1 _ rfl
    · rw [Nat.add_assoc]; exact f 2 _ rfl
    · rw [Nat.add_assoc]; exact f 3 _ rfl
theorem OwnE.form4 {W : World} {b : Nat} {e : TypeId} {c : Nat} {v : Value} {n : Nat} {xs : List Value} (h : OwnE W b e c v n xs) : ∃ a cap, v = .slice a n cap := by
  rcases h.1.2 with ⟨rfl, e⟩ | ⟨g, off, cap, rfl, _⟩
  · rw [e]; exact ⟨_, _, rfl⟩
  · exact ⟨_, _, rfl⟩
/-- What is kept, in memory: the struct's four cells, and the records. -/
structure HIn (W : World) (base gh : Nat) (m t : Int) (v : Value) (l : List HR) (ag : Int) : Prop where
  bs : base ≤ gh
  at4 : At4 123 W gh (.int .i64 m) (.int .i64 t) v (.int .i64 ag)
  own : OwnE W base 64 4 v l.length (hiV l)
  len : (l.length : Int) ≤ hiC m
  up : HiUp l
theorem hiTypes : (123 : TypeId) ≠ 64 := by decide
theorem HIn.apart {W : World} {base gh : Nat} {m t : Int} {v : Value} {l : List HR} {ag : Int} (h : HIn W base gh m t v l ag) : v.ownBlock ≠ some gh := fun e => by
  obtain ⟨cs, hcs⟩ := h.own.2 gh e
  have h4 := h.at4
  unfold At4 at h4
  rw [h4] at hcs
  simp only [Option.some.injEq, Obj.cells.injEq] at hcs
  exact hiTypes hcs.2.1
theorem HIn.later {W W' : World} {base gh : Nat} {m t : Int} {v : Value} {l : List HR} {ag : Int} (h : HIn W base gh m t v l ag) (hb : Below W.heap.size W W') : HIn W' base gh m t v l ag :=
  ⟨h.bs, h.at4.later hb, h.own.later hb, h.len, h.up⟩
theorem HIn.base {W : World} {base c gh : Nat} {m t : Int} {v : Value} {l : List HR} {ag : Int} (h : HIn W base gh m t v l ag) (hc : c ≤ base) : HIn W c gh m t v l ag :=
  ⟨Nat.le_trans hc h.bs, h.at4, h.own.base hc, h.len, h.up⟩
theorem HIn.drew {W : World} {base gh : Nat} {m t : Int} {v : Value} {l : List HR} {ag : Int} (h : HIn W base gh m t v l ag) : HIn W.drew base gh m t v l ag :=
  ⟨h.bs, h.at4, h.own.drew, h.len, h.up⟩
theorem HIn.small {W : World} {base gh : Nat} {m t : Int} {v : Value} {l : List HR} {ag : Int} (h : HIn W base gh m t v l ag) : l.length ≤ 65535 := by
  have := h.len
  have := hiC_bd m
  omega
/-- What is no history, and no record of one, is kept. -/
def isHi (o : Obj) : Prop := ∃ cs T fz, o = .cells cs T fz ∧ (T = 123 ∨ T = 64)
structure KeptH (w w' : World) : Prop where
  size : w.heap.size ≤ w'.heap.size
  block : ∀ (k : Nat) (o : Obj), w.heap[k]? = some o → ¬ isHi o → w'.heap[k]? = w.heap[k]?
theorem lt_of_obj {w : World} {k : Nat} {o : Obj} (h : w.heap[k]? = some o) : k < w.heap.size := (Array.getElem?_eq_some_iff.1 h).1
theorem not_isHi {cs : Array Value} {T : TypeId} {fz : Nat × Nat} (h1 : T ≠ 123) (h2 : T ≠ 64) : ¬ isHi (.cells cs T fz) := by
  rintro ⟨cs', T', fz', e, h⟩
  cases e
  rcases h with h | h
  · exact h1 h
  · exact h2 h
theorem KeptH.refl (w : World) : KeptH w w := ⟨Nat.le_refl _, fun _ _ _ _ => rfl⟩
theorem KeptH.trans {a b c : World} (h : KeptH a b) (k : KeptH b c) : KeptH a c :=
  ⟨Nat.le_trans h.size k.size, fun i o hi h1 => by
    have e := h.block i o hi h1
    rw [k.block i o (by rw [e]; exact hi) h1, e]⟩
theorem keptH_below {w w' : World} (h : Below w.heap.size w w') : KeptH w w' := ⟨h.size, fun k o hk _ => h.block k (lt_of_obj hk)⟩
theorem KeptH.drew {a b : World} (h : KeptH a b) : KeptH a b.drew := ⟨h.size, h.block⟩
theorem keptH_only {w w' : World} {g : Nat} {c0 c1 c2 c3 : Value} (h4 : At4 123 w g c0 c1 c2 c3) (h : Only g w w') : KeptH w w' :=
  ⟨by rw [h.size]; exact Nat.le_refl _, fun k o hk h1 => h.block k (fun e => by
    subst e
    unfold At4 at h4
    rw [h4] at hk
    cases hk
    exact h1 ⟨_, _, _, rfl, .inl rfl⟩)⟩
theorem keptH_row {w w' : World} {row : Option Nat} (ht : ∀ k, row = some k → ∃ cs, w.heap[k]? = some (.cells cs 64 (0, 0))) (h : w.grownBy w' row) : KeptH w w' :=
  ⟨h.size, fun k o hk h2 => h.block k (lt_of_obj hk) (fun e => by
    obtain ⟨cs', hcs⟩ := ht k e.symm
    rw [hk] at hcs
    cases hcs
    exact h2 ⟨_, _, _, rfl, .inr rfl⟩)⟩
theorem OwnE.keptH {W W' : World} {b : Nat} {e : TypeId} {size : Nat} {v : Value} {n : Nat} {xs : List Value} (h : OwnE W b e size v n xs) (hk : KeptH W W') (h1 : e ≠ 123) (h2 : e ≠ 64) : OwnE W' b e size v n xs :=
  h.keep hk.size fun k cs _ hc => hk.block k _ hc (not_isHi h1 h2)
theorem At4.keptH {T : TypeId} {W W' : World} {g : Nat} {c0 c1 c2 c3 : Value} (h : At4 T W g c0 c1 c2 c3) (hk : KeptH W W') (h1 : T ≠ 123) (h2 : T ≠ 64) : At4 T W' g c0 c1 c2 c3 := by
  unfold At4 at h ⊢
  rw [hk.block g _ h (not_isHi h1 h2)]
  exact h
theorem hiAmong_q (a n b : Int) (w : World) : Calls Try.prog 69 #[.int .i64 a, .int .i64 n, .int .i64 b] w fun e w' => e = .returned (.int .i64 (min (max n a) b)) ∧ w' = w := by
  go_enter Try.func69, Try.ntmps69
  go_wp2
  go_ret
  exact ⟨rfl, rfl⟩
set_option maxHeartbeats 3200000 in
/-- sort.Search with a function of history's: k is where it says true first. -/
theorem hiSearch_any (bf bh n k : Nat) (p : Nat → Bool) (w : World) (hn : n ≤ 1073741824) (hk : k ≤ n) (h0 : ∀ i, i < k → p i = false) (h1 : ∀ i, k ≤ i → i < n → p i = true)
    (hf : ∀ (i : Nat) (W : World), i < n → Below w.heap.size w W → Calls Try.prog 106 #[.int .i64 i, .pointer (some ⟨bf, 0, none⟩), .pointer (some ⟨bh, 0, none⟩)] W fun e w' => e = .returned (.bool (p i)) ∧ Below W.heap.size W w') :
    Calls Try.prog 100 #[.int .i64 n, .func (.func 106) #[] #[.pointer (some ⟨bf, 0, none⟩), .pointer (some ⟨bh, 0, none⟩)]] w fun e w' => e = .returned (.int .i64 k) ∧ Below w.heap.size w w' := by
  have HF := Lib.hid hf
  have H0 := Lib.hid h0
  have H1 := Lib.hid h1
  clear hf h0 h1
  go_enter Try.func100, Try.ntmps100
  go_wp2_with fail
  go_loopw [5, 6] (fun s5 s6 wr => ∃ lo hi : Nat, s5 = .int .i64 lo ∧ s6 = .int .i64 hi ∧ lo ≤ k ∧ k ≤ hi ∧ hi ≤ n ∧ Below w.heap.size w wr) (fun s5 s6 _ => (intOf s6).toNat - (intOf s5).toNat)
  case atStart => exact ⟨0, n, rfl, rfl, Nat.zero_le _, hk, Nat.le_refl _, Below.refl _ _⟩
  case round =>
    obtain ⟨lo, hi, rfl, rfl, hlk, hkh, hhn, hb⟩ := hrel
    by_cases hlt : lo < hi
    · have hc := HF.out ((lo + hi) / 2) wr (by omega) hb
      rw [show (((lo + hi) / 2 : Nat) : Int) = ((lo : Int) + (hi : Int)) / 2 by omega] at hc
      rcases Nat.lt_or_ge ((lo + hi) / 2) k with h | h
      · rw [H0.out _ h] at hc
        go_wp2_with fail
        refine hc.mono ?_
        rintro e w3 ⟨rfl, hk3⟩
        have hb3 := hb.trans (hk3.mono hb.size)
        go_wp2_with fail
        go_roundw
        case rel => exact ⟨(lo + hi) / 2 + 1, hi, by rw [show ((lo : Int) + (hi : Int)) / 2 + 1 = (((lo + hi) / 2 + 1 : Nat) : Int) by omega], rfl, by omega, hkh, hhn, hb3⟩
        case measure => simp [intOf]; omega
      · rw [H1.out _ h (by omega)] at hc
        go_wp2_with fail
        refine hc.mono ?_
        rintro e w3 ⟨rfl, hk3⟩
        have hb3 := hb.trans (hk3.mono hb.size)
        go_wp2_with fail
        go_roundw
        case rel => exact ⟨lo, (lo + hi) / 2, rfl, by rw [show ((lo : Int) + (hi : Int)) / 2 = (((lo + hi) / 2 : Nat) : Int) by omega], by omega, h, by omega, hb3⟩
        case measure => simp [intOf]; omega
    · obtain rfl : lo = k := by omega
      obtain rfl : hi = lo := by omega
      go_wp2_with fail
      go_ret
      exact ⟨rfl, hb⟩

theorem hiFarPl_any (r : HR) (s : Int) (bs : Nat) (w : World) (h : w.cell? ⟨bs, 0, none⟩ = some (.int .i64 s)) : Calls Try.prog 97 #[r.val, .pointer (some ⟨bs, 0, none⟩)] w fun e w' => e = .returned (.bool (decide (s ≤ r.s))) ∧ Below w.heap.size w w' := by
  obtain ⟨rs, rt, rp, rd⟩ := r
  simp only [HR.val]
  have hX := at4_new 64 w _ (.int .i64 rs) (.int .i64 rt) (.int .i64 rp) (.string rd) rfl
  have hb : Below w.heap.size w (w.alloc (.cells #[.int .i64 rs, .int .i64 rt, .int .i64 rp, .string rd] 64)) := (Below.refl _ _).alloc (Nat.le_refl _) _
  have h2 := cell_keep h hb
  go_enter Try.func97, Try.ntmps97
  go_upto_region 1 with fail
  generalize (w.alloc (.cells #[.int .i64 rs, .int .i64 rt, .int .i64 rp, .string rd] 64)) = w2 at hX hb h2 ⊢
  generalize hg : w.heap.size = g at hX hb ⊢
  have HG := Lib.hid hg
  clear hg
  obtain ⟨_, _, _, _⟩ := hX.cells
  go_wp2_with fail
  go_ret
  exact ⟨by simp, by rw [HG.out]; exact hb⟩
set_option maxRecDepth 100000 in
set_option maxHeartbeats 3200000 in
theorem hiFirst1Pl_any (r : HR) (s : Int) (l : List HR) (i gh bf bh bs cap : Nat) (a : Option Addr) (w : World) (hi : l[i]? = some r) (hl : l.length ≤ 65535)
    (hh : w.cell? ⟨gh, 2, none⟩ = some (.slice a l.length cap)) (hr : RdR w a l) (h1 : w.cell? ⟨bf, 0, none⟩ = some (.func (.func 97) #[] #[.pointer (some ⟨bs, 0, none⟩)])) (h2 : w.cell? ⟨bh, 0, none⟩ = some (.pointer (some ⟨gh, 0, none⟩))) (h3 : w.cell? ⟨bs, 0, none⟩ = some (.int .i64 s)) :
    Calls Try.prog 106 #[.int .i64 i, .pointer (some ⟨bf, 0, none⟩), .pointer (some ⟨bh, 0, none⟩)] w fun e w' => e = .returned (.bool (decide (s ≤ r.s))) ∧ Below w.heap.size w w' := by
  have hil : i < l.length := (List.getElem?_eq_some_iff.1 hi).1
  obtain ⟨g, off, rfl, c0, c1, c2, c3⟩ := hr i r hi
  have HC := Lib.hid (fun W (h : W.cell? ⟨bs, 0, none⟩ = some (.int .i64 s)) => hiFarPl_any r s bs W h)
  simp only [HR.val] at HC
  generalize hd : decide (s ≤ r.s) = d at HC ⊢
  clear hd hi hr
  generalize l.length = n at *
  have HSS : Hid (∀ W : World, Below w.heap.size w W → W.cell? ⟨bf, 0, none⟩ = some (.func (.func 97) #[] #[.pointer (some ⟨bs, 0, none⟩)]) ∧ W.cell? ⟨bh, 0, none⟩ = some (.pointer (some ⟨gh, 0, none⟩)) ∧ W.cell? ⟨bs, 0, none⟩ = some (.int .i64 s) ∧ W.cell? ⟨gh, 2, none⟩ = some (.slice (some ⟨g, off, none⟩) n cap) ∧ W.cell? ⟨g, off + i * 4, none⟩ = some (.int .i64 r.s) ∧ W.cell? ⟨g, off + i * 4 + 1, none⟩ = some (.int .i64 r.t) ∧ W.cell? ⟨g, off + i * 4 + 2, none⟩ = some (.int .i64 r.p) ∧ W.cell? ⟨g, off + i * 4 + 3, none⟩ = some (.string r.d)) := Lib.hid (fun W hW => ⟨cell_keep h1 hW, cell_keep h2 hW, cell_keep h3 hW, cell_keep hh hW, cell_keep c0 hW, cell_keep c1 hW, cell_keep c2 hW, cell_keep c3 hW⟩)
  go_enter Try.func106, Try.ntmps106
  go_wp2_with fail
  go_region_held3 (fun W => W.cell? ⟨bf, 0, none⟩ = some (.func (.func 97) #[] #[.pointer (some ⟨bs, 0, none⟩)]) ∧ W.cell? ⟨bh, 0, none⟩ = some (.pointer (some ⟨gh, 0, none⟩)) ∧ W.cell? ⟨bs, 0, none⟩ = some (.int .i64 s) ∧ W.cell? ⟨gh, 2, none⟩ = some (.slice (some ⟨g, off, none⟩) n cap) ∧ W.cell? ⟨g, off + i * 4, none⟩ = some (.int .i64 r.s) ∧ W.cell? ⟨g, off + i * 4 + 1, none⟩ = some (.int .i64 r.t) ∧ W.cell? ⟨g, off + i * 4 + 2, none⟩ = some (.int .i64 r.p) ∧ W.cell? ⟨g, off + i * 4 + 3, none⟩ = some (.string r.d)) (first | (go_keep; done) | exact HSS.out _ (Below.drew (Below.refl _ _)) | exact HSS.out _ hk6) (first | (refine (HC.out _ (by assumption)).mono ?_; rintro e w5 ⟨rfl, hk5⟩; have hk6 : Below w.heap.size w w5 := Below.trans (Below.drew (Below.refl _ _)) hk5) | (go_at_call 97; refine (HC.out _ (by assumption)).mono ?_; rintro e w5 ⟨rfl, hk5⟩; have hk6 : Below w.heap.size w w5 := Below.trans (Below.drew (Below.refl _ _)) hk5))
  all_goals
    go_wp2_with fail
    go_ret
    exact ⟨rfl, hk6⟩

theorem hiFarFg_any (r : HR) (s : Int) (bs : Nat) (w : World) (h : w.cell? ⟨bs, 0, none⟩ = some (.int .i64 s)) : Calls Try.prog 96 #[r.val, .pointer (some ⟨bs, 0, none⟩)] w fun e w' => e = .returned (.bool (decide (s < r.s))) ∧ Below w.heap.size w w' := by
  obtain ⟨rs, rt, rp, rd⟩ := r
  simp only [HR.val]
  have hX := at4_new 64 w _ (.int .i64 rs) (.int .i64 rt) (.int .i64 rp) (.string rd) rfl
  have hb : Below w.heap.size w (w.alloc (.cells #[.int .i64 rs, .int .i64 rt, .int .i64 rp, .string rd] 64)) := (Below.refl _ _).alloc (Nat.le_refl _) _
  have h2 := cell_keep h hb
  go_enter Try.func96, Try.ntmps96
  go_upto_region 1 with fail
  generalize (w.alloc (.cells #[.int .i64 rs, .int .i64 rt, .int .i64 rp, .string rd] 64)) = w2 at hX hb h2 ⊢
  generalize hg : w.heap.size = g at hX hb ⊢
  have HG := Lib.hid hg
  clear hg
  obtain ⟨_, _, _, _⟩ := hX.cells
  go_wp2_with fail
  go_ret
  exact ⟨by simp, by rw [HG.out]; exact hb⟩
set_option maxRecDepth 100000 in
set_option maxHeartbeats 3200000 in
theorem hiFirst1Fg_any (r : HR) (s : Int) (l : List HR) (i gh bf bh bs cap : Nat) (a : Option Addr) (w : World) (hi : l[i]? = some r) (hl : l.length ≤ 65535)
    (hh : w.cell? ⟨gh, 2, none⟩ = some (.slice a l.length cap)) (hr : RdR w a l) (h1 : w.cell? ⟨bf, 0, none⟩ = some (.func (.func 96) #[] #[.pointer (some ⟨bs, 0, none⟩)])) (h2 : w.cell? ⟨bh, 0, none⟩ = some (.pointer (some ⟨gh, 0, none⟩))) (h3 : w.cell? ⟨bs, 0, none⟩ = some (.int .i64 s)) :
    Calls Try.prog 106 #[.int .i64 i, .pointer (some ⟨bf, 0, none⟩), .pointer (some ⟨bh, 0, none⟩)] w fun e w' => e = .returned (.bool (decide (s < r.s))) ∧ Below w.heap.size w w' := by
  have hil : i < l.length := (List.getElem?_eq_some_iff.1 hi).1
  obtain ⟨g, off, rfl, c0, c1, c2, c3⟩ := hr i r hi
  have HC := Lib.hid (fun W (h : W.cell? ⟨bs, 0, none⟩ = some (.int .i64 s)) => hiFarFg_any r s bs W h)
  simp only [HR.val] at HC
  generalize hd : decide (s < r.s) = d at HC ⊢
  clear hd hi hr
  generalize l.length = n at *
  have HSS : Hid (∀ W : World, Below w.heap.size w W → W.cell? ⟨bf, 0, none⟩ = some (.func (.func 96) #[] #[.pointer (some ⟨bs, 0, none⟩)]) ∧ W.cell? ⟨bh, 0, none⟩ = some (.pointer (some ⟨gh, 0, none⟩)) ∧ W.cell? ⟨bs, 0, none⟩ = some (.int .i64 s) ∧ W.cell? ⟨gh, 2, none⟩ = some (.slice (some ⟨g, off, none⟩) n cap) ∧ W.cell? ⟨g, off + i * 4, none⟩ = some (.int .i64 r.s) ∧ W.cell? ⟨g, off + i * 4 + 1, none⟩ = some (.int .i64 r.t) ∧ W.cell? ⟨g, off + i * 4 + 2, none⟩ = some (.int .i64 r.p) ∧ W.cell? ⟨g, off + i * 4 + 3, none⟩ = some (.string r.d)) := Lib.hid (fun W hW => ⟨cell_keep h1 hW, cell_keep h2 hW, cell_keep h3 hW, cell_keep hh hW, cell_keep c0 hW, cell_keep c1 hW, cell_keep c2 hW, cell_keep c3 hW⟩)
  go_enter Try.func106, Try.ntmps106
  go_wp2_with fail
  go_region_held3 (fun W => W.cell? ⟨bf, 0, none⟩ = some (.func (.func 96) #[] #[.pointer (some ⟨bs, 0, none⟩)]) ∧ W.cell? ⟨bh, 0, none⟩ = some (.pointer (some ⟨gh, 0, none⟩)) ∧ W.cell? ⟨bs, 0, none⟩ = some (.int .i64 s) ∧ W.cell? ⟨gh, 2, none⟩ = some (.slice (some ⟨g, off, none⟩) n cap) ∧ W.cell? ⟨g, off + i * 4, none⟩ = some (.int .i64 r.s) ∧ W.cell? ⟨g, off + i * 4 + 1, none⟩ = some (.int .i64 r.t) ∧ W.cell? ⟨g, off + i * 4 + 2, none⟩ = some (.int .i64 r.p) ∧ W.cell? ⟨g, off + i * 4 + 3, none⟩ = some (.string r.d)) (first | (go_keep; done) | exact HSS.out _ (Below.drew (Below.refl _ _)) | exact HSS.out _ hk6) (first | (refine (HC.out _ (by assumption)).mono ?_; rintro e w5 ⟨rfl, hk5⟩; have hk6 : Below w.heap.size w w5 := Below.trans (Below.drew (Below.refl _ _)) hk5) | (go_at_call 96; refine (HC.out _ (by assumption)).mono ?_; rintro e w5 ⟨rfl, hk5⟩; have hk6 : Below w.heap.size w w5 := Below.trans (Below.drew (Below.refl _ _)) hk5))
  all_goals
    go_wp2_with fail
    go_ret
    exact ⟨rfl, hk6⟩

end Go.Proofs.Ytaekefedmobfoaa
