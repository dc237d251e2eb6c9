/- Subflow: what both sides find, in one; the law's lines, sameLines. -/
import Derived.Test.YtjoikidnnhjogaaMSfY
import Derived.Test.YtjoikidnnhjogaaMSfT
import Derived.Test.YtjoikidnnhjogaaMSfE
namespace Go.Proofs.Ytjoikidnnhjogaa
open Go.RowKit
set_option linter.unusedVariables false
def liU (a : LI) : Prop := (0 ≤ a.high ∧ a.high < 4294967296) ∧ (0 ≤ a.jit ∧ a.jit < 4294967296) ∧ (0 ≤ a.bytes ∧ a.bytes < 4294967296) ∧ (0 ≤ a.last ∧ a.last < 4294967296) ∧ (0 ≤ a.delay ∧ a.delay < 4294967296)
theorem gN_u (s : ByteArray) (a b : Nat) (h : b ≤ a + 4) : (0 : Int) ≤ (gN s a b : Nat) ∧ ((gN s a b : Nat) : Int) < 4294967296 := by
  have := gN_lt s a b 4 h
  have e : (256 : Nat) ^ 4 = 4294967296 := by decide
  omega
theorem liAt_u (s : ByteArray) (a : Nat) : liU (liAt s a) :=
  ⟨gN_u s _ _ (by omega), gN_u s _ _ (by omega), gN_u s _ _ (by omega), gN_u s _ _ (by omega), gN_u s _ _ (by omega)⟩
theorem lis_all (p : PC) (hs : p.body.size ≤ 500) (L : List LI) (S : Int) (h0 : toLE p = 0 → L = dLis p.body ((p.body.size - 4) / 28) ∧ S = (gN p.body 0 4 : Nat)) (h1 : toLE p ≠ 0 → L = [] ∧ S = 0) :
    toLq p = ⟨S, L⟩ ∧ 0 ≤ S ∧ S < 4294967296 ∧ L.length ≤ 1000 ∧ (∀ i, i < L.length → liU (L[i]?.getD zeroLI)) ∧ (toLE p = 0 → lsP ⟨S, L⟩ = p) := by
  by_cases hE : toLE p = 0
  · obtain ⟨rfl, rfl⟩ := h0 hE
    have hq : toLq p = lsRd p.body := by unfold toLq; rw [if_pos hE]
    have hd := toLE_doc p
    rw [hE] at hd
    have hk : lsP (lsRd p.body) = p := by
      unfold toLE at hE
      split at hE
      · omega
      · split at hE
        · assumption
        · omega
    by_cases k1 : p.kind ≠ 211 ∨ p.count ≠ 1
    · rw [if_pos k1] at hd; omega
    · rw [if_neg k1] at hd
      by_cases k2 : p.body.size < 32 ∨ p.body.size % 28 ≠ 4
      · rw [if_pos k2] at hd; omega
      · rw [if_neg k2] at hd
        by_cases k3 : lisD p.body ((p.body.size - 4) / 28)
        · have hn : p.body.size = 4 + 28 * ((p.body.size - 4) / 28) := by omega
          have hf := (lis_forth p.body ((p.body.size - 4) / 28) hn (by omega) k3).1
          rw [hf] at hq hk
          refine ⟨hq, (gN_u _ 0 4 (by omega)).1, (gN_u _ 0 4 (by omega)).2, by rw [dLis_len]; omega, fun i hi => ?_, fun _ => hk⟩
          rw [dLis_len] at hi
          rw [dLis_get _ _ _ hi]
          exact liAt_u _ _
        · rw [if_neg k3] at hd; omega
  · obtain ⟨rfl, rfl⟩ := h1 hE
    refine ⟨by unfold toLq; rw [if_neg hE]; rfl, by omega, by omega, by simp, fun i hi => by simp at hi, fun h => absurd h hE⟩
theorem ads_all (p : PC) (hs : p.body.size ≤ 500) (L : List AD) (S : Int) (h0 : toSE p = 0 → L = dAds p.body ((p.body.size - 4) / 4) ∧ S = (gN p.body 0 4 : Nat)) (h1 : toSE p ≠ 0 → L = [] ∧ S = 0) :
    toS p = ⟨S, L⟩ ∧ 0 ≤ S ∧ S < 4294967296 ∧ L.length ≤ 1000 ∧ (toSE p = 0 → asP ⟨S, L⟩ = p) := by
  by_cases hE : toSE p = 0
  · obtain ⟨rfl, rfl⟩ := h0 hE
    have hq : toS p = asRd p.body := by unfold toS; rw [if_pos hE]
    have hd := toSE_doc p
    rw [hE] at hd
    have hk : asP (asRd p.body) = p := by
      unfold toSE at hE
      split at hE
      · omega
      · split at hE
        · assumption
        · omega
    by_cases k1 : p.kind ≠ 211 ∨ p.count ≠ 2
    · rw [if_pos k1] at hd; omega
    · rw [if_neg k1] at hd
      by_cases k2 : p.body.size < 4 ∨ p.body.size % 4 ≠ 0
      · rw [if_pos k2] at hd; omega
      · rw [if_neg k2] at hd
        by_cases k3 : adsD p.body ((p.body.size - 4) / 4)
        · have hn : p.body.size = 4 + 4 * ((p.body.size - 4) / 4) := by omega
          have hf := (ads_forth p.body ((p.body.size - 4) / 4) hn k3).1
          rw [hf] at hq hk
          exact ⟨hq, (gN_u _ 0 4 (by omega)).1, (gN_u _ 0 4 (by omega)).2, by rw [dAds_len]; omega, fun _ => hk⟩
        · rw [if_neg k3] at hd; omega
  · obtain ⟨rfl, rfl⟩ := h1 hE
    refine ⟨by unfold toS; rw [if_neg hE]; rfl, by omega, by omega, by simp, fun h => absurd h hE⟩
theorem ReadsL.atR {w : World} {a : Option Addr} {l : List LI} (h : ReadsL LI.rvals w a l) {i : Nat} (hi : i < l.length) :
    ∃ b off, a = some ⟨b, off, none⟩ ∧ w.cell? ⟨b, off + i * 8, none⟩ = some (.int .i64 (l[i]?.getD zeroLI).path) ∧ w.cell? ⟨b, off + i * 8 + 1, none⟩ = some (.int .i64 (l[i]?.getD zeroLI).frac) ∧ w.cell? ⟨b, off + i * 8 + 2, none⟩ = some (.int .i64 (l[i]?.getD zeroLI).lost) ∧ w.cell? ⟨b, off + i * 8 + 3, none⟩ = some (.int .i64 (l[i]?.getD zeroLI).high) ∧ w.cell? ⟨b, off + i * 8 + 4, none⟩ = some (.int .i64 (l[i]?.getD zeroLI).jit) ∧ w.cell? ⟨b, off + i * 8 + 5, none⟩ = some (.int .i64 (l[i]?.getD zeroLI).bytes) ∧ w.cell? ⟨b, off + i * 8 + 6, none⟩ = some (.int .i64 (l[i]?.getD zeroLI).last) ∧ w.cell? ⟨b, off + i * 8 + 7, none⟩ = some (.int .i64 (l[i]?.getD zeroLI).delay) := by
  rcases h with h | ⟨b, off, ha, hc⟩
  · simp [h] at hi
  · exact ⟨b, off, ha, hc i hi 0 _ rfl, hc i hi 1 _ rfl, hc i hi 2 _ rfl, hc i hi 3 _ rfl, hc i hi 4 _ rfl, hc i hi 5 _ rfl, hc i hi 6 _ rfl, hc i hi 7 _ rfl⟩
set_option maxHeartbeats 1600000 in
theorem sameLis_any (l : List LI) (a a2 : Option Addr) (n c m c2 : Nat) (w : World) (hn : n = l.length) (hm : m = l.length) (hr : ReadsL LI.rvals w a l) (hr2 : ReadsL LI.rvals w a2 l) (hl : l.length ≤ 1000000) :
    Calls Try.prog 18 #[.slice a n c, .slice a2 m c2] w fun e w' => e = .returned (.bool true) ∧ Below w.heap.size w w' := by
  subst hn
  subst hm
  have HR := Lib.hid (fun W (h : Below w.heap.size w W) => hr.later h)
  have HR2 := Lib.hid (fun W (h : Below w.heap.size w W) => hr2.later h)
  clear hr hr2
  go_enter Try.func18, Try.ntmps18
  go_wp2
  go_loopw [13] (fun i wr => ∃ k : Nat, k ≤ l.length ∧ i = .int .i64 k ∧ Below w.heap.size w wr) (fun i _ => l.length - (intOf i).toNat)
  case atStart => exact ⟨0, Nat.zero_le _, rfl, Below.refl _ _⟩
  case round =>
    obtain ⟨k, hk, rfl, hb1⟩ := hrel
    by_cases hlt : k < l.length
    · obtain ⟨ab, off, rfl, c0, c1, c2', c3, c4, c5, c6, c7⟩ := (HR.out _ hb1).atR hlt
      obtain ⟨ab2, off2, rfl, d0, d1, d2, d3, d4, d5, d6, d7⟩ := (HR2.out _ hb1).atR hlt
      generalize l[k]?.getD zeroLI = p at c0 c1 c2' c3 c4 c5 c6 c7 d0 d1 d2 d3 d4 d5 d6 d7
      have i1 : (k : Int) < (l.length : Int) := by omega
      go_wp2_with fail
      go_quiet (fail)
      have hb2 := below_drewN hb1 nq
      go_wp2
      go_roundw
      case rel => exact ⟨k + 1, by omega, by go_num, hb2⟩
      case measure => simp [intOf]; omega
    · obtain rfl : k = l.length := by omega
      go_wp2
      go_ret
      exact ⟨rfl, hb1⟩
theorem lisVR_take (l : List LI) (k : Nat) (h : k < l.length) : lisVR (l.take (k + 1)) = lisVR (l.take k) ++ (l[k]?.getD zeroLI).rvals := by
  rw [List.take_succ_eq_append_getElem h, show l[k]?.getD zeroLI = l[k] from by simp [h]]
  unfold lisVR
  rw [List.map_append, List.flatten_append]
  simp only [List.map_cons, List.map_nil, List.flatten_cons, List.flatten_nil, List.append_nil]
set_option maxRecDepth 100000 in
set_option maxHeartbeats 3200000 in
theorem lines_any (l : List LI) (a : Option Addr) (n c : Nat) (w : World) (hn : n = l.length) (hr : ReadsL LI.vals w a l) (hl : l.length ≤ 1000) (hu : ∀ i, i < l.length → liU (l[i]?.getD zeroLI)) :
    Calls Try.prog 19 #[.slice a n c] w fun e w' => ∃ a' c', e = .returned (.slice a' l.length c') ∧ ReadsL LI.rvals w' a' l ∧ Below w.heap.size w w' := by
  subst hn
  obtain ⟨i0, hi, hz0, hz1, hz2⟩ := info_parts infoLiR
  have HR := Lib.hid (fun W (h : Below w.heap.size w W) => hr.later h)
  have HU := Lib.hid hu
  have HE : Hid (∀ (W : World) (a' : Option Addr) (c' : Nat), W.ownsRow w.heap.size 122 8 (.slice a' l.length c') l.length (lisVR (l.take l.length)) → ReadsL LI.rvals W a' l) := Lib.hid (fun W a' c' h => by rw [List.take_length] at h; exact own_readsLR h)
  have HT : Hid (∀ k, k < l.length → lisVR (l.take (k + 1)) = lisVR (l.take k) ++ (l[k]?.getD zeroLI).rvals) := Lib.hid (fun k hk => lisVR_take l k hk)
  clear hr hu
  go_enter Try.func19, Try.ntmps19
  go_wp2
  go_loopw [3, 8] (fun z i wr => ∃ (k : Nat) (av : Option Addr) (cv : Nat), k ≤ l.length ∧ i = .int .i64 k ∧ z = .slice av k cv ∧ wr.ownsRow w.heap.size 122 8 (.slice av k cv) k (lisVR (l.take k)) ∧ Below w.heap.size w wr) (fun _ i _ => l.length - (intOf i).toNat)
  case atStart => exact ⟨0, none, 0, Nat.zero_le _, rfl, rfl, World.ownsRow_nil _ _ _ _, Below.refl _ _⟩
  case round =>
    obtain ⟨k, av, cv, hk, rfl, rfl, hv, hb⟩ := hrel
    have hgr := hb.size
    by_cases hlt : k < l.length
    · obtain ⟨ab, off, rfl, c0, c1, c2, c3, c4, c5, c6, c7⟩ := (HR.out _ hb).at hlt
      obtain ⟨⟨u0, u1⟩, ⟨u2, u3⟩, ⟨u4, u5⟩, ⟨u6, u7⟩, ⟨u8, u9⟩⟩ := HU.out k hlt
      have ht := Lib.hid (HT.out k hlt)
      generalize l[k]?.getD zeroLI = p at c0 c1 c2 c3 c4 c5 c6 c7 u0 u1 u2 u3 u4 u5 u6 u7 u8 u9 ht
      obtain ⟨f0, f1, f2, f3, f4, f5, f6, f7⟩ := p
      simp only [LI.rvals] at c0 c1 c2 c3 c4 c5 c6 c7 u0 u1 u2 u3 u4 u5 u6 u7 u8 u9 ht
      generalize lisVR (l.take k) = AK at hv ht
      have hva := hv.alloc (.cells #[.int .i64 f0, .int .i64 f1, .int .i64 f2, .int .u32 f3, .int .u32 f4, .int .u32 f5, .int .u32 f6, .int .u32 f7] 128)
      have hba := hb.alloc hgr (.cells #[.int .i64 f0, .int .i64 f1, .int .i64 f2, .int .u32 f3, .int .u32 f4, .int .u32 f5, .int .u32 f6, .int .u32 f7] 128)
      have hPa := atC_new 128 wr #[.int .i64 f0, .int .i64 f1, .int .i64 f2, .int .u32 f3, .int .u32 f4, .int .u32 f5, .int .u32 f6, .int .u32 f7]
      go_upto_region 5 with fail
      generalize wr.alloc (.cells #[.int .i64 f0, .int .i64 f1, .int .i64 f2, .int .u32 f3, .int .u32 f4, .int .u32 f5, .int .u32 f6, .int .u32 f7] 128) = w5 at hva hba hPa ⊢
      generalize wr.heap.size = ge at hPa ⊢
      clear c0 c1 c2 c3 c4 c5 c6 c7 hb hv hgr
      obtain ⟨x0, x1, x2, x3, x4, x5, x6, x7⟩ := hPa.cells8
      have v3 : IntKind.i64.wrap f3 = f3 := IntWalk.i64_in _ ⟨by omega, by omega⟩
      have v4 : IntKind.i64.wrap f4 = f4 := IntWalk.i64_in _ ⟨by omega, by omega⟩
      have v5 : IntKind.i64.wrap f5 = f5 := IntWalk.i64_in _ ⟨by omega, by omega⟩
      have v6 : IntKind.i64.wrap f6 = f6 := IntWalk.i64_in _ ⟨by omega, by omega⟩
      have v7 : IntKind.i64.wrap f7 = f7 := IntWalk.i64_in _ ⟨by omega, by omega⟩
      have hgs : w.heap.size ≤ w5.heap.size := hba.size
      go_wp2_with (at_builtin; refine append_rec (by rfl) (.tmp 12) (.tmp 35) 34 (by rfl) w.heap.size 122 i0 (.agg #[.int .i64 0, .int .i64 0, .int .i64 0, .int .i64 0, .int .i64 0, .int .i64 0, .int .i64 0, .int .i64 0]) 8 64 Try.underlying34 hi hz0 hz1 hz2 rfl (by decide) _ k AK (by rfl) hva #[.int .i64 f0, .int .i64 f1, .int .i64 f2, .int .i64 f3, .int .i64 f4, .int .i64 f5, .int .i64 f6, .int .i64 f7] rfl (by rfl) ?d1 ?d2 ?d3 w.heap.size (Nat.le_refl _) hgs hba ?_)
      case d1 => exact ⟨rfl, rfl, rfl, rfl, rfl, rfl, rfl, rfl⟩
      case d2 => unfold maxLen; omega
      case d3 => omega
      intro v' w10 hown10 hb10 hg10
      obtain ⟨ad, cq, rfl⟩ : ∃ ad cq, v' = .slice ad (k + 1) cq := by
        rcases hown10.2 with ⟨_, h0⟩ | ⟨g', cap, cur, rfl, _⟩
        · omega
        · exact ⟨_, _, rfl⟩
      have hown11 : w10.ownsRow w.heap.size 122 8 (.slice ad (k + 1) cq) (k + 1) (lisVR (l.take (k + 1))) := by rw [ht.out]; exact hown10
      clear hown10 ht hva hba hPa x0 x1 x2 x3 x4 x5 x6 x7
      go_wp2
      go_roundw
      case rel => exact ⟨k + 1, ad, cq, by omega, by go_num, rfl, hown11, hb10⟩
      case measure => simp [intOf]; omega
    · obtain rfl : k = l.length := by omega
      have hq := HE.out wr av cv hv
      go_wp2
      go_ret
      exact ⟨av, cv, rfl, hq, hb⟩
end Go.Proofs.Ytjoikidnnhjogaa

