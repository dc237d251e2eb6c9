/- The document's Turn. -/
import Derived.Test.YtbmbomojnljccaaCrcT
namespace Go.Proofs.Ytbmbomojnljccaa
open Go.RowKit
set_option linter.unusedVariables false
theorem bitsN_set (l l' : List UInt8) (n i : Nat) (hi : i < n) (h1 : Crc.bitOf l' i = !Crc.bitOf l i) (h2 : ∀ j, j < n → j ≠ i → Crc.bitOf l' j = Crc.bitOf l j) : (bitsN l n).set i (1 - (bn (Crc.bitOf l i) : Int)) = bitsN l' n := by
  apply List.ext_getElem?
  intro j
  rw [List.getElem?_set]
  by_cases e : i = j
  · subst e
    rw [if_pos rfl, if_pos (by rw [bitsN_len]; exact hi)]
    have : (bitsN l' n)[i]? = some ((bn (Crc.bitOf l' i) : Int)) := by simp [bitsN, hi]
    rw [this, h1]
    cases Crc.bitOf l i <;> rfl
  · rw [if_neg e]
    by_cases hj : j < n
    · simp only [bitsN, List.getElem?_map, List.getElem?_range hj, Option.map_some]
      rw [h2 j hj (fun c => e c.symm)]
    · rw [List.getElem?_eq_none (by rw [bitsN_len]; omega), List.getElem?_eq_none (by rw [bitsN_len]; omega)]
theorem bitsN_congr (l l' : List UInt8) (n : Nat) (h : ∀ j, j < n → Crc.bitOf l' j = Crc.bitOf l j) : bitsN l n = bitsN l' n := by
  unfold bitsN
  apply List.map_congr_left
  intro i hi
  rw [h i (List.mem_range.1 hi)]
theorem byte_step (l : List UInt8) (q c : Nat) (hc : c < 8) : 2 * ((l[q]?.getD 0).toNat / 2 ^ (8 - c)) + bn (Crc.bitOf l (8 * q + c)) = (l[q]?.getD 0).toNat / 2 ^ (8 - (c + 1)) := by
  unfold Crc.bitOf
  rw [show (8 * q + c) / 8 = q from by omega, show (8 * q + c) % 8 = c from by omega]
  generalize (l[q]?.getD 0).toNat = b
  rw [show 8 - (c + 1) = 7 - c from by omega, Nat.testBit_eq_decide_div_mod_eq]
  have hd : b / 2 ^ (8 - c) = b / 2 ^ (7 - c) / 2 := by
    rw [Nat.div_div_eq_div_mul, ← Nat.pow_succ, show (7 - c).succ = 8 - c from by omega]
  rw [hd]
  unfold bn
  split <;> simp_all <;> omega
theorem own_store {w : World} {B g n c : Nat} {l : List Int} {e : TypeId} (h : w.ownsRow B e 1 (.slice (some ⟨g, 0, none⟩) n c) n (l.map (Value.int .i64))) (i : Nat) (x : Int) :
    (w.setCell ⟨g, i, none⟩ (.int .i64 x)).ownsRow B e 1 (.slice (some ⟨g, 0, none⟩) n c) n ((l.set i x).map (Value.int .i64)) := by
  rw [List.map_set]; exact (h.stored i _).1
set_option maxHeartbeats 1000000 in
theorem refTurn_any (s : ByteArray) (at_ : Int) (m : Nat) (w : World) (hs : s.size ≤ 1048576) (hpos : 0 < s.size) (hm : m < 4294967296) :
    Calls Try.prog 42 #[.string s, .int .i64 at_, .int .u32 (m : Int)] w fun e w' => e = .returned (.string (ofL (turnL (by_ s) at_ m))) ∧ Below w.heap.size w w' := by
  obtain ⟨i0, hi, hz0, hz1, hz2⟩ := info_parts info8
  go_enter Try.func42, Try.ntmps42
  go_wp2_with fail
  refine (bits_any s w (by omega)).mono ?_
  rintro e w1 ⟨v, rfl, hown, hb⟩
  obtain ⟨g, c, rfl⟩ : ∃ g c, v = .slice (some ⟨g, 0, none⟩) (8 * s.size) c := by
    rcases hown.2 with ⟨hv, hn0⟩ | ⟨g, cap, cur, hv, _⟩
    · omega
    · exact ⟨g, cap, hv⟩
  have hBg : w.heap.size ≤ g := (hown.lt g rfl).1
  have hg1 : g < w1.heap.size := (hown.lt g rfl).2
  go_upto_region 2 with fail
  go_cut [1] (fun v wx => ∃ p : Nat, v = .int .i64 p ∧ Hid (p = near at_ (8 * s.size)) ∧ p ≤ 8 * s.size ∧ wx = w1)
  case first =>
    go_wp2_with fail
    go_meet
    exact ⟨near at_ (8 * s.size), by congr 1; unfold near; (repeat' split) <;> omega, rfl, near_le _ _, rfl⟩
  case rest =>
  obtain ⟨p, rfl, hp, hple, rfl⟩ := hcut
  go_wp2
  go_loopw [8] (fun i wr => ∃ k : Nat, k ≤ min 32 (8 * s.size - p) ∧ i = .int .i64 k ∧ wr.ownsRow w.heap.size 3 1 (.slice (some ⟨g, 0, none⟩) (8 * s.size) c) (8 * s.size) ((bitsN (Crc.turnTo (by_ s) p m k) (8 * s.size)).map (Value.int .i64)) ∧ Below w.heap.size w wr) (fun i _ => min 32 (8 * s.size - p) - (intOf i).toNat)
  case atStart => exact ⟨0, Nat.zero_le _, rfl, hown, hb⟩
  case round =>
    obtain ⟨k, hk, rfl, hown1, hb1⟩ := hrel
    clear hown hb
    have hTl := Crc.turnTo_len (by_ s) p m k
    rw [by_len] at hTl
    by_cases hlt : k < min 32 (8 * s.size - p)
    · have hk1 : k < 32 := by omega
      have hk2 : (p : Int) + (k : Int) < 8 * (s.size : Int) := by omega
      have hk3 : p + k < 8 * s.size := by omega
      have hcell := hown1.cellAt (p + k) (by omega)
      have hfz := hown1.frozenAt (p + k)
      rw [show ((bitsN (Crc.turnTo (by_ s) p m k) (8 * s.size)).map (Value.int .i64))[p + k]? = some (.int .i64 (bn (Crc.bitOf (Crc.turnTo (by_ s) p m k) (p + k)) : Int)) from by simp [bitsN, hk3]] at hcell
      have hb01 := bn_le (Crc.bitOf (Crc.turnTo (by_ s) p m k) (p + k))
      have hmb : ((m : Int) / 2 ^ (31 - k) % 2 == 1) = m.testBit (31 - k) := by
        have e : ((m : Int) / 2 ^ (31 - k) % 2) = ((m / 2 ^ (31 - k) % 2 : Nat) : Int) := by norm_cast
        rw [e, Nat.testBit_eq_decide_div_mod_eq, Bool.eq_iff_iff]
        simp
        omega
      have hnn : 0 ≤ (m : Int) / 2 ^ (31 - k) := Int.ediv_nonneg (by omega) (Int.pow_nonneg (by decide))
      have hfb : ∀ j, j < 8 * s.size → Crc.bitOf (Crc.turnTo (by_ s) p m (k + 1)) j = (Crc.bitOf (Crc.turnTo (by_ s) p m k) j ^^ (m.testBit (31 - k) && decide (j = p + k))) := fun j hj => Crc.flip_bit _ _ _ _ (by rw [hTl]; exact hk3) (by rw [hTl]; exact hj)
      cases hmt : m.testBit (31 - k)
      · have hnx : Hid (bitsN (Crc.turnTo (by_ s) p m k) (8 * s.size) = bitsN (Crc.turnTo (by_ s) p m (k + 1)) (8 * s.size)) := bitsN_congr _ _ _ (fun j hj => by rw [hfb j hj, hmt]; simp)
        rw [hmt] at hmb
        clear hfb hmt
        generalize bn (Crc.bitOf (Crc.turnTo (by_ s) p m k) (p + k)) = x at hcell hb01
        go_wp2
        go_roundw
        case rel => exact ⟨k + 1, by omega, by go_num, by rw [← hnx.out]; exact hown1, hb1⟩
        case measure => simp only [intOf]; omega
      · have hnx : Hid ((bitsN (Crc.turnTo (by_ s) p m k) (8 * s.size)).set (p + k) (1 - (bn (Crc.bitOf (Crc.turnTo (by_ s) p m k) (p + k)) : Int)) = bitsN (Crc.turnTo (by_ s) p m (k + 1)) (8 * s.size)) := by
          refine bitsN_set _ _ _ _ hk3 ?_ ?_
          · rw [hfb _ hk3, hmt]; simp
          · intro j hj hne
            rw [hfb j hj, hmt]; simp [hne]
        rw [hmt] at hmb
        clear hfb hmt
        have hst := own_store hown1 (p + k) (1 - (bn (Crc.bitOf (Crc.turnTo (by_ s) p m k) (p + k)) : Int))
        rw [hnx.out] at hst
        have Hst := Lib.hid hst
        clear hst hnx hown1
        generalize bn (Crc.bitOf (Crc.turnTo (by_ s) p m k) (p + k)) = x at hcell hb01 Hst
        go_wp2
        go_roundw
        case rel => exact ⟨k + 1, by omega, by go_num, Hst.out, hb1.setCell hBg _⟩
        case measure => simp only [intOf]; omega
    · have hkN : k = min 32 (8 * s.size - p) := by omega
      have hres : Crc.turnTo (by_ s) p m k = turnL (by_ s) at_ m := by
        unfold turnL
        rw [by_len, ← hp.out, ← hkN]
      rw [hres] at hown1 hTl
      clear hres
      have HkN := Lib.hid hkN
      clear hkN
      generalize hL : turnL (by_ s) at_ m = L at hown1 hTl
      have HL := Lib.hid hL
      clear hL
      have hgr : g < wr.heap.size := (hown1.lt g rfl).2
      obtain ⟨wp, rfl⟩ : ∃ wp : World, wp = wr := ⟨_, rfl⟩
      have hrd : Reads .i64 wp (some ⟨g, 0, none⟩) (bitsN L (8 * s.size)) := by
        refine Or.inr ⟨g, 0, rfl, fun i hi => ?_⟩
        rw [bitsN_len] at hi
        rw [Nat.zero_add, hown1.cellAt i (by omega)]
        simp [bitsN, hi]
      clear hown1
      go_wp2
      all_goals
        go_loopw [9, 10] (fun v i wi => ∃ q : Nat, q ≤ s.size ∧ i = .int .i64 (8 * (q : Int)) ∧ wi.ownsRow wp.heap.size 5 1 v q ((L.take q).map u8v) ∧ Below w.heap.size w wi ∧ Below wp.heap.size wp wi) (fun _ i _ => 8 * s.size - (intOf i).toNat)
        case atStart => exact ⟨0, Nat.zero_le _, rfl, World.ownsRow_made _ _ _ (Nat.le_refl _) (by decide) rfl, hb1.alloc hb1.size _, (Below.refl _ _).alloc (Nat.le_refl _) _⟩
        case round =>
          obtain ⟨wo, rfl⟩ : ∃ wo : World, wo = wr := ⟨_, rfl⟩
          obtain ⟨q, hq, rfl, hownB, hbw, hbr⟩ := hrel
          by_cases hlq : q < s.size
          · have hrq := hrd.later hbr
            clear hrd
            go_wp2
            go_loop [11, 12] (fun n j => ∃ jj : Nat, jj ≤ 8 ∧ j = .int .i64 jj ∧ n = .int .i64 (((L[q]?.getD 0).toNat / 2 ^ (8 - jj) : Nat) : Int)) (fun _ j => 8 - (intOf j).toNat)
            case atStart => exact ⟨0, by omega, rfl, by have h8 := UInt8.toNat_lt (L[q]?.getD 0); rw [Nat.div_eq_of_lt (by simpa using h8)]; rfl⟩
            case round =>
              obtain ⟨j, hj, rfl, rfl⟩ := hrel
              by_cases hlj : j < 8
              · obtain ⟨gb, gf, hga, hcell⟩ := hrq.at (i := 8 * q + j) (by rw [bitsN_len]; omega)
                cases hga
                rw [Nat.zero_add, bitsN_at _ _ _ (by omega)] at hcell
                have hbs := Lib.hid (byte_step L q j hlj)
                have hN : (L[q]?.getD 0).toNat / 2 ^ (8 - j) ≤ 255 := Nat.le_trans (Nat.div_le_self _ _) (by have := UInt8.toNat_lt (L[q]?.getD 0); omega)
                have hx1 := bn_le (Crc.bitOf L (8 * q + j))
                generalize (L[q]?.getD 0).toNat / 2 ^ (8 - j) = N at hbs hN
                generalize bn (Crc.bitOf L (8 * q + j)) = x at hcell hbs hx1
                have hidx : 8 * (q : Int) + (j : Int) < 8 * (s.size : Int) := by omega
                clear hrq hownB
                go_wp2
                go_round
                case rel => exact ⟨j + 1, by omega, by go_num, by rw [← hbs.out]; go_num⟩
                case measure => simp [intOf]; omega
              · obtain rfl : j = 8 := by omega
                have hN0 : (L[q]?.getD 0).toNat / 2 ^ (8 - 8) = (L[q]?.getD 0).toNat := by simp
                rw [hN0]
                clear hN0
                have hN : (L[q]?.getD 0).toNat ≤ 255 := by have := UInt8.toNat_lt (L[q]?.getD 0); omega
                have hts : Hid (L.take (q + 1) = L.take q ++ [L[q]?.getD 0]) := by
                  show L.take (q + 1) = _
                  rw [List.take_succ_eq_append_getElem (by omega)]
                  simp [show q < L.length from by omega]
                have hu : Hid (u8v (L[q]?.getD 0) = .int .u8 ((L[q]?.getD 0).toNat : Int)) := rfl
                generalize L[q]?.getD 0 = y at hN hts hu
                generalize y.toNat = N at hN hu
                clear hrq
                go_wp2_with (at_builtin; refine append_one (W := wp) rfl _ _ 47 rfl wp.heap.size 5 i0 (.int .u8 0) 1 Try.underlying47 hi hz0 hz1 hz2 rfl _ _ _ rfl hownB (.int .u8 (N : Int)) rfl rfl ?d1 ?d2 wp.heap.size (Nat.le_refl _) hbr.size hbr ?_)
                case d1 => unfold maxLen; omega
                case d2 => omega
                intro v' w' hown2 hb2
                have H2 : w'.ownsRow wp.heap.size 5 1 v' (q + 1) ((L.take (q + 1)).map u8v) := by rw [hts.out, List.map_append, List.map_singleton, hu.out, List.map_take]; exact hown2
                have hb3 : Below w.heap.size w w' := hb1.trans (hb2.mono hb1.size)
                clear hown2 hownB hbw hbr
                go_wp2
                go_roundw
                case rel => exact ⟨q + 1, by omega, by go_num, H2, hb3, hb2⟩
                case measure => simp only [intOf]; omega
          · obtain rfl : q = s.size := by omega
            rw [List.take_of_length_le (by omega)] at hownB
            obtain ⟨gg, cc, rfl⟩ : ∃ gg cc, u9 = .slice (some ⟨gg, 0, none⟩) s.size cc := by
              rcases hownB.2 with ⟨hv, hn0⟩ | ⟨g2, cap, cur, hv, _⟩
              · omega
              · exact ⟨g2, cap, hv⟩
            have hconv := conv_own hownB hTl
            clear hownB hrd
            go_wp2
            go_ret
            exact ⟨ret_str (by rw [HL.out]), hbw⟩
end Go.Proofs.Ytbmbomojnljccaa
