/- SubflowAdverts: the walk. -/
import Derived.Test.YteffolbkffafbaaSfJ
import Derived.Test.YteffolbkffafbaaPcC
import Derived.Laws.AppendOwnNone
namespace Go.Proofs.Yteffolbkffafbaa
open Go.RowKit
set_option linter.unusedVariables false
theorem recs_ads {w : World} {a : Option Addr} {n : Nat} (h : Recs [isNum .i64, isBool, isNum .i64] w a n) : ∃ l : List AD, l.length = n ∧ ReadsA w a l := by
  rcases h with h | ⟨b, off, rfl, hlt, hc⟩
  · exact ⟨[], by simp [h], .inl rfl⟩
  · have hE : ∀ i, i < n → ∃ x : AD, ∀ j v, x.vals[j]? = some v → w.cell? ⟨b, off + (i * 3 + j), none⟩ = some v := by
      intro i hi
      obtain ⟨v0, h0, p, rfl, hp⟩ := hc i hi 0 _ rfl
      obtain ⟨v1, h1, u, rfl⟩ := hc i hi 1 _ rfl
      obtain ⟨v2, h2, r, rfl, hr⟩ := hc i hi 2 _ rfl
      refine ⟨⟨p, u, r⟩, fun j v hv => ?_⟩
      match j, hv with
      | 0, hv => cases hv; exact h0
      | 1, hv => cases hv; exact h1
      | 2, hv => cases hv; exact h2
      | (m + 3), hv => simp [AD.vals] at hv
    have hL : ∀ m, m ≤ n → ∃ l : List AD, l.length = m ∧ (∀ i, i < m → ∀ j v, ((l[i]?.getD zeroAD).vals)[j]? = some v → w.cell? ⟨b, off + (i * 3 + j), none⟩ = some v) := by
      intro m
      induction m with
      | zero => intro _; exact ⟨[], rfl, fun i hi => by omega⟩
      | succ m ih =>
        intro hm
        obtain ⟨l, hl, hcl⟩ := ih (by omega)
        obtain ⟨x, hxc⟩ := hE m (by omega)
        refine ⟨l ++ [x], by simp [hl], fun i hi j v hv => ?_⟩
        by_cases him : i < m
        · rw [List.getElem?_append_left (by omega)] at hv
          exact hcl i him j v hv
        · obtain rfl : i = m := by omega
          rw [List.getElem?_append_right (by omega), hl, Nat.sub_self] at hv
          exact hxc j v hv
    obtain ⟨l, hl, hcl⟩ := hL n (Nat.le_refl _)
    exact ⟨l, hl, .inr ⟨b, off, rfl, fun i hi j v hv => hcl i (by omega) j v hv⟩⟩
section
open Go.ChangeShapes Go.WideShapes Go.Deep
theorem recs_open2 {H : Type} {enc : TypeId × Value → H} {P : Program} {w : World} {base : Nat} {spare : Nat → Bool} {held : Bool} {t e : TypeId} {fs : Array Field} {fuel len cap : Nat} {pp : Option Addr} {x : DataW H × List MemPlace}
    (ps : List (Value → Prop)) (ht : P.underlying t = some (.slice e)) (he : P.underlying e = some (.struct fs)) (hone : oneCellFields P fs = true) (hC : P.cellsOf e = fs.size) (hps : ps.length = fs.size) (h0 : 0 < fs.size)
    (hF : ∀ (j : Nat) (f : Field) (p : Value → Prop), fs[j]? = some f → ps[j]? = some p → ∀ n v y, DataW.trod enc P w base spare held n f.type [v] = some y → p v)
    (h : DataW.trod enc P w base spare held fuel t [.slice pp len cap] = some x) : Recs ps w pp len ∧ len ≤ cap ∧ cap ≤ 9223372036854775807 ∧ ((pp = none ∧ len = 0 ∧ cap = 0) ∨ ∃ y, pp = some y) := by
  refine ⟨(recs_open ps ht he hone hC hps h0 hF h).1, ?_⟩
  rcases open_rec ht he hone hC h with h1 | ⟨a, l, c, hcs, hl, hm, hc⟩
  · simp at h1
    exact ⟨by omega, by omega, .inl h1⟩
  · simp only [List.cons.injEq, Value.slice.injEq, and_true] at hcs
    obtain ⟨rfl, rfl, rfl⟩ := hcs
    unfold maxLen at hm
    exact ⟨hl, by omega, .inr ⟨_, rfl⟩⟩
end
theorem ownS_store {w : World} {T : TypeId} {B g i : Nat} {e : TypeId} {m : Nat} {v u : Value} {n : Nat} {xs : List Value} {cs : Array Value} (h : w.ownsRow B e m v n xs) (hP : AtC T w g cs) (hne : T ≠ e) : (w.setCell ⟨g, i, none⟩ u).ownsRow B e m v n xs :=
  ownsRow_setCell_other h (fun x => row_neP h hP (by intro cur p q; simp at q; exact hne q.2.1) x.symm) _
theorem AtC.grown {W W' : World} {T e : TypeId} {B m n g : Nat} {v : Value} {xs : List Value} {cs : Array Value} (h : AtC T W g cs) (hv : W.ownsRow B e m v n xs) (hg : W.grownBy W' v.ownBlock) (hne : T ≠ e) : AtC T W' g cs := by
  unfold AtC
  rw [hg.block g h.lt (row_neP hv h (by intro cur q x; simp at x; exact hne x.2.1))]
  exact h
/-- 'append' of one number to a row of the call's own; what else is kept. -/
theorem app_int {ops : Array Oper} {o : Oper} {a : Act} {w : World} {rest : List Oper} {Q : Exit → Act → World → Prop} (hgd : o.guard = none) (s x : Operand)
    (ho : o.op = .call { callee := .builtin .append, args := #[s, x], argTypes := #[43, 43] })
    (B : Nat) (v : Value) (k : Nat) (xs : List Int) (u : Int)
    (hv : w.ownsRow B 3 1 v k (xs.map (Value.int .i64))) (hB : B ≤ w.heap.size) (hl : k ≤ 1000) (hs : a.eval s = v) (hx : a.eval x = .slice (some ⟨w.heap.size, 0, none⟩) 1 1)
    (h : ∀ ad c w', w'.ownsRow B 3 1 (.slice ad (k + 1) c) (k + 1) ((xs ++ [u]).map (Value.int .i64)) → (w.alloc (.cells #[.int .i64 u] 3)).ownsRow B 3 1 v k (xs.map (Value.int .i64)) → (w.alloc (.cells #[.int .i64 u] 3)).grownBy w' v.ownBlock → wpList Try.prog ops Q rest (a.put o.dst (.slice ad (k + 1) c)) w') :
    wpList Try.prog ops Q (o :: rest) a (w.alloc (.cells #[.int .i64 u] 3)) := by
  obtain ⟨i0, hi, hz0, hz1, hz2⟩ := info_parts info64r
  have hv1 := hv.alloc (.cells #[.int .i64 u] 3)
  refine wpList_append_own _ hgd s x _ ho B 3 i0 (.int .i64 0) 1 8 Try.underlying43 hi hz0 hz1 hz2 rfl (by decide) v k (xs.map (Value.int .i64)) hs hv1 ⟨w.heap.size, 0, none⟩ 1 1 [.int .i64 u] hx rfl ?_ ?_ (by unfold maxLen; omega) (by omega) (by simp; omega) ?_
  · intro j u' hj
    match j, hj with
    | 0, hj => simp at hj; subst hj; simp [Addr.add]
  · intro u' hu; simp at hu; subst hu; rfl
  · intro v' w' hown hgrow _
    obtain ⟨ad, c, rfl⟩ := own_slice hown
    exact h ad c w' (by rw [List.map_append]; exact hown) hv1 hgrow
theorem ReadsA.take {w : World} {a : Option Addr} {l : List AD} (h : ReadsA w a l) (n : Nat) : ReadsA w a (l.take n) := by
  rcases h with h | ⟨b, off, ha, hc⟩
  · exact .inl (by simp [h])
  · refine .inr ⟨b, off, ha, fun i hi j v hv => ?_⟩
    rw [List.length_take] at hi
    rw [List.getElem?_take_of_lt (by omega)] at hv
    exact hc i (by omega) j v hv
theorem asP_small (q : AS) : (asP q).body.size ≤ 1000 ∧ (asP q = zeroPC ↔ ¬ adsMay q.all) := by
  by_cases hm : adsMay q.all
  · have e : asP q = ⟨2, 211, ofL (asL q)⟩ := by unfold asP; rw [if_pos hm]
    have hl := adsMay_len _ hm
    refine ⟨?_, ?_⟩
    · rw [e]; simp only [ofL_size, asL, List.length_append, be_len, adsL_len]; omega
    · rw [e]
      refine ⟨fun h => ?_, fun h => absurd hm h⟩
      have : (211 : Int) = 0 := congrArg PC.kind h
      cases this
  · have e : asP q = zeroPC := by unfold asP; rw [if_neg hm]
    refine ⟨?_, ?_⟩
    · rw [e]; decide
    · rw [e]; exact ⟨fun _ => hm, fun _ => rfl⟩
theorem adsV_take (l : List AD) (k : Nat) (h : k < l.length) : adsV (l.take (k + 1)) = adsV (l.take k) ++ (l[k]?.getD zeroAD).vals := by
  rw [List.take_succ_eq_append_getElem h, adsV_append]
  congr 1
  show (l[k]).vals ++ [] = _
  rw [List.append_nil]
  simp [h]
namespace subflowAdverts
set_option maxRecDepth 100000 in
set_option maxHeartbeats 6400000 in
theorem walk (src : Int) (pp : Option Addr) (ln cp : Nat) (w0 : (Lit.int .u32 src).wf = true) (w : World) (w1 : Recs [isNum .i64, isBool, isNum .i64] w pp ln) (l1 : ln ≤ cp) (l2 : cp ≤ 9223372036854775807) (hac : (pp = none ∧ ln = 0 ∧ cp = 0) ∨ ∃ y, pp = some y) :
    Calls Try.prog 12 #[.int .u32 src, .slice pp ln cp] w fun e w' => e = .returned (.bool true) ∧ Below w.heap.size w w' := by
  obtain ⟨i0, hi, hz0, hz1, hz2⟩ := info_parts infoAd
  obtain ⟨n1, n2⟩ := u32_bd w0
  clear w0
  obtain ⟨es, hel, hr0⟩ := recs_ads w1
  clear w1
  obtain ⟨m, hm⟩ : ∃ m : Nat, min (ln : Int) 17 = (m : Int) := ⟨(min (ln : Int) 17).toNat, by omega⟩
  have hm17 : m ≤ 17 := by omega
  have hmc : (m : Int) ≤ (cp : Int) := by omega
  have hm0 : (0 : Int) ≤ (m : Int) := by omega
  have hrt := hr0.take m
  have hzl : (es.take m).length = m := by rw [List.length_take]; omega
  generalize es.take m = zs at hrt hzl
  have HR := Lib.hid (fun W (h : Below w.heap.size w W) => hrt.later h)
  clear hr0 hel hrt
  have hw : IntKind.i64.wrap src = src := IntWalk.i64_in _ ⟨by omega, by omega⟩
  go_enter Try.func12, Try.ntmps12
  go_wp2_with fail
  refine (sfAwake_any _).mono ?_
  rintro e w3 ⟨rfl, hb3⟩
  go_upto_region 3 with fail
  go_cut [1] (fun z wx => wx = w3 ∧ z = .slice pp m cp)
  case first =>
    rcases hac with ⟨rfl, rfl, rfl⟩ | ⟨y, rfl⟩
    · obtain rfl : m = 0 := by omega
      go_wp2_with fail
      go_meet
      exact ⟨rfl, rfl⟩
    · go_wp2_with fail
      go_meet
      exact ⟨rfl, rfl⟩
  case rest =>
  obtain ⟨rfl, rfl⟩ := hcut
  rename World => w3
  clear hm hmc hm0 hac l1 l2
  obtain ⟨g, hg⟩ : ∃ g, w.heap.size = g := ⟨_, rfl⟩
  have HG := Lib.hid hg
  rw [hg] at hb3 HR
  have hg3 : g ≤ w3.heap.size := by rw [← hg]; exact hb3.size
  clear hg
  have hX4 := atC_new 105 w3 #[.int .u32 src, .slice none 0 0]
  have hb4 := hb3.alloc hg3 (.cells #[.int .u32 src, .slice none 0 0] 105)
  go_upto_region 5 with fail
  generalize w3.alloc (.cells #[.int .u32 src, .slice none 0 0] 105) = w4 at hX4 hb4 ⊢
  generalize w3.heap.size = gx at hX4 hg3 ⊢
  clear hb3
  have HT := Lib.hid (fun k h => upsL_take zs k h)
  have HA := Lib.hid (fun k h => adsV_take zs k h)
  have HLn : Hid (∀ k, k ≤ m → (upsL (zs.take k)).length ≤ k) := Lib.hid (fun k hk => by have := upsL_len (zs.take k); rw [List.length_take] at this; omega)
  have HF : Hid (zs.take m = zs) := Lib.hid (by rw [← hzl, List.take_length])
  have HZL := Lib.hid hzl
  clear hzl
  go_wp2_with fail
  go_loopw [6, 23] (fun z i wr => ∃ (k m2 : Nat) (av : Option Addr) (cv : Nat) (ad : Option Addr) (cd : Nat), k ≤ m ∧ i = .int .i64 k ∧ z = .slice av m2 cv ∧ (upsL (zs.take k)).length = m2 ∧ wr.ownsRow g 3 1 (.slice av m2 cv) m2 ((upsL (zs.take k)).map (Value.int .i64)) ∧ AtC 105 wr gx #[.int .u32 src, .slice ad k cd] ∧ wr.ownsRow g 116 3 (.slice ad k cd) k (adsV (zs.take k)) ∧ Below g w wr) (fun _ i _ => m - (intOf i).toNat)
  case atStart => exact ⟨0, 0, none, 0, none, 0, Nat.zero_le _, rfl, rfl, rfl, World.ownsRow_nil _ _ _ _, hX4, World.ownsRow_nil _ _ _ _, hb4⟩
  case round =>
    obtain ⟨k, m2, av, cv, ad, cd, hk, rfl, rfl, hml, hv, hX, ho, hb⟩ := hrel
    clear hX4 hb4
    have hgr : g ≤ wr.heap.size := by have := hX.lt; omega
    by_cases hlt : k < m
    · obtain ⟨ab, off, rfl, x0, x1, x2⟩ := (HR.out _ hb).at (i := k) (by rw [HZL.out]; exact hlt)
      have hT := Lib.hid (HT.out k (by rw [HZL.out]; exact hlt))
      have hA := Lib.hid (HA.out k (by rw [HZL.out]; exact hlt))
      have hm2 := HLn.out k hk
      rw [hml] at hm2
      have HM := Lib.hid hml
      clear hml
      generalize zs[k]?.getD zeroAD = p at x0 x1 x2 hT hA
      generalize upsL (zs.take k) = UK at hT hv HM
      generalize adsV (zs.take k) = AK at hA ho
      obtain ⟨path, up, rate⟩ := p
      simp only [AD.vals] at x0 x1 x2 hT hA
      have hba := hb.alloc hgr (.cells #[.int .i64 path, .bool up, .int .i64 rate] 115)
      have hva := hv.alloc (.cells #[.int .i64 path, .bool up, .int .i64 rate] 115)
      have hXa := hX.alloc (.cells #[.int .i64 path, .bool up, .int .i64 rate] 115)
      have hoa := ho.alloc (.cells #[.int .i64 path, .bool up, .int .i64 rate] 115)
      have hPa := atC_new 115 wr #[.int .i64 path, .bool up, .int .i64 rate]
      go_upto_region 9 with fail
      generalize wr.alloc (.cells #[.int .i64 path, .bool up, .int .i64 rate] 115) = w5 at hba hva hXa hoa hPa ⊢
      generalize wr.heap.size = ge at hPa ⊢
      clear x0 x1 x2 hb hv hX ho hgr
      have hge : gx ≠ ge := by
        rintro rfl
        unfold AtC at hXa hPa
        rw [hXa] at hPa
        cases hPa
      obtain ⟨x0, x1, x2⟩ := hPa.cells3
      obtain ⟨z0, z1⟩ := hXa.cells2
      have hg5 : g ≤ w5.heap.size := by have := hXa.lt; omega
      go_wp2_with (at_builtin; refine append_rec (by rfl) (.tmp 28) (.tmp 30) 103 (by rfl) g 116 i0 (.agg #[.int .i64 0, .bool false, .int .i64 0]) 3 24 Try.underlying103 hi hz0 hz1 hz2 rfl (by decide) _ k AK (by rfl) hoa #[.int .i64 path, .bool up, .int .i64 rate] rfl (by rfl) ?d1 ?d2 ?d3 g (Nat.le_refl _) hg5 hba ?_)
      case d1 => exact ⟨rfl, rfl, rfl⟩
      case d2 => unfold maxLen; omega
      case d3 => omega
      intro v' w6 hown6 hb6 hg6
      obtain ⟨ad2, cd2, rfl⟩ : ∃ ad cq, v' = .slice ad (k + 1) cq := by
        rcases hown6.2 with ⟨_, h0⟩ | ⟨g', cap, cur, rfl, _⟩
        · omega
        · exact ⟨_, _, rfl⟩
      have hob := hoa.alloc (.cells #[.int .i64 path, .bool up, .int .i64 rate] 116)
      have hX6 : AtC 105 w6 gx #[.int .u32 src, .slice ad k cd] := (hXa.alloc (.cells #[.int .i64 path, .bool up, .int .i64 rate] 116)).grown hob hg6 (by decide)
      have hP6 : AtC 115 w6 ge #[.int .i64 path, .bool up, .int .i64 rate] := (hPa.alloc (.cells #[.int .i64 path, .bool up, .int .i64 rate] 116)).grown hob hg6 (by decide)
      have hv6 := (hva.alloc (.cells #[.int .i64 path, .bool up, .int .i64 rate] 116)).kept hg6 (own_apart hob (hva.alloc (.cells #[.int .i64 path, .bool up, .int .i64 rate] 116)) (by decide))
      have hown7 : w6.ownsRow g 116 3 (.slice ad2 (k + 1) cd2) (k + 1) (adsV (zs.take (k + 1))) := by rw [hA.out]; exact hown6
      clear hown6 hob hg6 hva hXa hoa hPa hba x0 x1 x2 z0 z1 hA
      obtain ⟨z0, z1⟩ := hX6.cells2
      have f1 := hX6.free 1
      have hX7 : AtC 105 (w6.setCell ⟨gx, 1, none⟩ (.slice ad2 (k + 1) cd2)) gx #[.int .u32 src, .slice ad2 (k + 1) cd2] := block_setCell hX6
      have hP7 : AtC 115 (w6.setCell ⟨gx, 1, none⟩ (.slice ad2 (k + 1) cd2)) ge #[.int .i64 path, .bool up, .int .i64 rate] := hP6.only hge.symm ((Only.refl gx w6).setCell 1 _)
      have hv7 := ownS_store (i := 1) (u := .slice ad2 (k + 1) cd2) hv6 hX6 (by decide)
      have ho7 := ownS_store (i := 1) (u := .slice ad2 (k + 1) cd2) hown7 hX6 (by decide)
      have hb7 := hb6.setCell (p := ⟨gx, 1, none⟩) hg3 (.slice ad2 (k + 1) cd2)
      go_upto_region 10 with fail
      generalize w6.setCell ⟨gx, 1, none⟩ (.slice ad2 (k + 1) cd2) = w7 at hX7 hP7 hv7 ho7 hb7 ⊢
      clear hX6 hP6 hv6 hown7 hb6 z0 z1 f1
      obtain ⟨x0, x1, x2⟩ := hP7.cells3
      cases up
      · have hUN : Hid (upsL (zs.take (k + 1)) = UK) := Lib.hid (by rw [hT.out]; simp)
        clear hT
        go_wp2
        go_roundw
        case rel => exact ⟨k + 1, m2, av, cv, ad2, cd2, by omega, by go_num, rfl, by rw [hUN.out]; exact HM.out, by rw [hUN.out]; exact hv7, hX7, ho7, hb7⟩
        case measure => simp [intOf]; omega
      · have hUN : Hid (upsL (zs.take (k + 1)) = UK ++ [path]) := Lib.hid (by rw [hT.out]; simp)
        clear hT
        have hg7 : g ≤ w7.heap.size := by have := hX7.lt; omega
        go_wp2_with (at_builtin; refine app_int rfl (.tmp 35) (.tmp 38) rfl g (.slice av m2 cv) m2 UK path hv7 hg7 (by omega) rfl rfl ?_)
        intro av2 cv2 w8 hown8 hvb hg8
        have hX8 : AtC 105 w8 gx #[.int .u32 src, .slice ad2 (k + 1) cd2] := (hX7.alloc (.cells #[.int .i64 path] 3)).grown hvb hg8 (by decide)
        have ho8 := (ho7.alloc (.cells #[.int .i64 path] 3)).kept hg8 (own_apart hvb (ho7.alloc (.cells #[.int .i64 path] 3)) (by decide))
        have hb8 := (hb7.alloc hg7 (.cells #[.int .i64 path] 3)).grown hg8 (by simp; omega) (fun k hk => (hvb.lt k hk).1)
        clear hvb hg8 hX7 hP7 hv7 ho7 hb7 x0 x1 x2
        go_wp2
        go_roundw
        case rel => exact ⟨k + 1, m2 + 1, av2, cv2, ad2, cd2, by omega, by go_num, rfl, by rw [hUN.out, List.length_append, HM.out]; rfl, by rw [hUN.out, List.map_append]; exact hown8, hX8, ho8, hb8⟩
        case measure => simp [intOf]; omega
    · obtain rfl : k = m := by omega
      rw [HF.out] at hml hv ho
      clear HT HA HLn HF hlt hk
      obtain ⟨_, _, e5, h1, h2, h3, hru⟩ := own_reads hv
      cases e5
      clear h1 h2 h3
      have HML := Lib.hid hml
      clear hml
      have hrs := own_readsA ho
      have hz := HZL.out
      subst hz
      obtain ⟨x0, x1⟩ := hX.cells2
      have HPi := Lib.hid (fun W (h : ReadsA W ad zs) => advPiece_any src zs ad cd W h (by omega))
      have HRP := Lib.hid (fun W (h : ReadsA W pp zs) => refAdvPiece_any src zs pp cp W h (by omega) n1 n2)
      have HUp := Lib.hid (fun W (h : ReadsA W ad zs) => advUp_any src zs ad cd W h (by omega))
      have hsm := asP_small ⟨src, zs⟩
      have hbk := fun h => as_back ⟨src, zs⟩ h n1 n2
      simp only at hsm hbk
      obtain ⟨PP, hPP⟩ : ∃ PP, asP ⟨src, zs⟩ = PP := ⟨_, rfl⟩
      rw [hPP] at HPi HRP hsm hbk
      clear hPP
      have hTo := fun W => toAds_any PP W (by have := hsm.1; omega)
      unfold ToSd at hTo
      obtain ⟨pc, pk, ps⟩ := PP
      simp only at HPi HRP hTo
      have HSM := Lib.hid hsm.2
      have HBK := Lib.hid hbk
      have HTo := Lib.hid hTo
      clear hsm hbk hTo
      have hgr : g ≤ wr.heap.size := by have := hX.lt; omega
      go_wp2_with fail
      refine (HPi.out _ hrs).mono ?_
      rintro e w7 ⟨rfl, hb7⟩
      have hal : Below w7.heap.size w7 (w7.alloc (.cells #[.int .i64 pc, .int .i64 pk, .string ps] 34)) := (Below.refl _ _).alloc (Nat.le_refl _) _
      have hP8 := pc_new w7 ⟨pc, pk, ps⟩
      simp only at hP8
      have hX8 := (hX.later hb7).later hal
      have hru8 := (hru.later hb7).later hal
      have hrs8 := (hrs.later hb7).later hal
      have hg7 : g ≤ w7.heap.size := by have := hb7.size; omega
      have hb8 := (hb.trans (hb7.mono hgr)).trans (hal.mono hg7)
      clear hX hv ho hru hrs hb hb7 hal x0 x1 HPi
      go_upto_region 14 with fail
      generalize w7.alloc (.cells #[.int .i64 pc, .int .i64 pk, .string ps] 34) = w8 at hP8 hX8 hru8 hrs8 hb8 ⊢
      generalize w7.heap.size = gp at hP8 hg7 ⊢
      obtain ⟨p0, p1, p2, _⟩ := pcAt_S hP8
      obtain ⟨x0, x1⟩ := hX8.cells2
      have hg8 : g ≤ w8.heap.size := by have := hX8.lt; omega
      have hd8 : Below w8.heap.size w8 w8.drew := by go_grown
      have HRU := Lib.hid (fun W (h : Below w8.heap.size w8 W) => hru8.later h)
      have HRS := Lib.hid (fun W (h : Below w8.heap.size w8 W) => hrs8.later h)
      have HRZ := Lib.hid (fun W (h : Below w8.heap.size w8 W) => HR.out W (hb8.trans (h.mono hg8)))
      have HSm := Lib.hid (fun a a2 c c2 W hr hr2 => sameInts_any (upsL zs) a a2 (upsL zs).length c c2 W rfl hr hr2 (by have := upsL_len zs; omega))
      clear hru8 hrs8 HR
      obtain ⟨UL, hUL⟩ : ∃ UL, upsL zs = UL := ⟨_, rfl⟩
      have hml := HML.out
      rw [hUL] at HUp HRU HSm hml
      subst hml
      clear hUL
      go_cut [55] (fun z wx => z = .bool false ∧ Below w8.heap.size w8 wx)
      case first =>
        go_region_law (first | (go_simp; go_at_call 58; refine (HRP.out _ (HRZ.out _ hd8)).mono ?_; rintro e w9 ⟨rfl, hb9⟩; have hh9 := hd8.trans hb9; obtain ⟨_, _, _, _⟩ := pcAt_S (hP8.later hh9); obtain ⟨_, _⟩ := (hX8.later hh9).cells2) | (go_simp; go_at_call 59; refine (HUp.out _ (HRS.out _ hh9)).mono ?_; rintro e w10 ⟨hb10, a10, c10, rfl, hr10⟩; have hh10 := hh9.trans (hb10.mono hh9.size)) | (go_simp; go_at_call 41; refine (HSm.out _ _ _ _ _ hr10 (HRU.out _ hh10)).mono ?_; rintro e w11 ⟨rfl, hb11⟩; have hh11 := hh10.trans (hb11.mono hh10.size)))
        all_goals
          go_wp2_with fail
          go_meet
          exact ⟨by simp, hh11⟩
      case rest =>
      obtain ⟨rfl, hb9⟩ := hcut
      rename World => w9
      have hX9 := hX8.later hb9
      have hP9 : PcAt w9 gp ⟨pc, pk, ps⟩ := hP8.later hb9
      have hrs9 := HRS.out _ hb9
      have hrz9 := HRZ.out _ hb9
      have hbb9 := hb8.trans (hb9.mono hg8)
      have hg9 : g ≤ w9.heap.size := by have := hb9.size; omega
      clear hX8 hP8 hb8 hb9 hd8 HRP HUp HRU HRS HRZ HSm p0 p1 p2 x0 x1
      obtain ⟨p0, p1, p2, _⟩ := pcAt_S hP9
      by_cases hm : adsMay zs
      · obtain ⟨hE, hS⟩ := HBK.out hm
        have hnz : ¬ ((⟨pc, pk, ps⟩ : PC) = zeroPC) := fun h => (HSM.out.1 h) hm
        have hT := HTo.out
        rw [hE, hS] at hT
        simp only at hT
        have HT := Lib.hid hT
        have hk0 : ¬ pk = 0 := by
          intro h
          subst h
          unfold toSE at hE
          rw [if_pos (.inl (by simp))] at hE
          cases hE
        have hSa := fun a a2 c c2 W hr hr2 => sameAds_any zs a a2 zs.length c c2 W rfl hr hr2 (by omega)
        have HSa := Lib.hid hSa
        clear hE hS hT HTo HBK HSM hnz hm hSa
        go_wp2_with fail
        refine (HT.out _).mono ?_
        rintro e w10 ⟨hb10, aq, cq, rfl, hq10⟩
        have hal : Below w10.heap.size w10 (w10.alloc (.cells #[.int .u32 src, .slice aq zs.length cq] 105)) := (Below.refl _ _).alloc (Nat.le_refl _) _
        have hM11 := atC_new 105 w10 #[.int .u32 src, .slice aq zs.length cq]
        have hq11 := hq10.later hal
        have hz11 := (hrz9.later hb10).later hal
        have hg10 : g ≤ w10.heap.size := by have := hb10.size; omega
        have hb11 := (hbb9.trans (hb10.mono hg9)).trans (hal.mono hg10)
        clear hX9 hP9 hbb9 hb10 hal hq10 hrs9 hrz9 p0 p1 p2 HT
        go_upto_region 19 with fail
        generalize w10.alloc (.cells #[.int .u32 src, .slice aq zs.length cq] 105) = w11 at hM11 hq11 hz11 hb11 ⊢
        generalize w10.heap.size = gm at hM11 hg10 ⊢
        obtain ⟨m0, m1⟩ := hM11.cells2
        have hg11 : g ≤ w11.heap.size := by have := hM11.lt; omega
        go_wp2_with fail
        refine (HSa.out _ _ _ _ _ hq11 hz11).mono ?_
        rintro e w12 ⟨rfl, hb12⟩
        go_wp2
        go_ret
        exact ⟨rfl, by rw [HG.out]; exact hb11.trans (hb12.mono hg11)⟩
      · have hz := HSM.out.2 hm
        unfold zeroPC at hz
        obtain ⟨rfl, rfl, rfl⟩ := PC.mk.inj hz
        clear hz HTo HBK HSM hm
        go_wp2
        go_ret
        exact ⟨rfl, by rw [HG.out]; exact hbb9⟩
end subflowAdverts
end Go.Proofs.Yteffolbkffafbaa
