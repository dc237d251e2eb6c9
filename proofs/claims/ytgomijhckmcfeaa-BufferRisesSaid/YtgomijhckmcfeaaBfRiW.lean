/- BufferRises: the walk. -/
import Derived.Test.YtgomijhckmcfeaaBfN
import Derived.Test.YtgomijhckmcfeaaBfSoM
import Derived.Test.YtgomijhckmcfeaaOrdM
import Derived.Test.YtgomijhckmcfeaaCut
import Derived.Test.YtgomijhckmcfeaaRecs
namespace Go.Proofs.Ytgomijhckmcfeaa
open Go.RowKit Go.Maps
set_option linter.unusedVariables false
set_option linter.unusedSimpArgs false
theorem madeU32 (n : Nat) : (madeCells #[Value.int .u32 0] n).toList = List.replicate n (Value.int .u32 0) := by
  unfold madeCells
  apply List.ext_getElem?
  intro i
  by_cases h : i < n
  · simp [h, Nat.mod_one]
  · rw [List.getElem?_eq_none (by simp; omega), List.getElem?_eq_none (by simp; omega)]
theorem bfTs_len (l : List BF) : (bfTs l).length = l.length := by simp [bfTs]
theorem bfTs_take (l : List BF) (k : Nat) (x : BF) (h : l[k]? = some x) : bfTs (l.take (k + 1)) = bfTs (l.take k) ++ [.int .u32 x.t] := take_mapG _ l k x h
theorem bfTs_at {l : List BF} {j : Nat} {x : BF} (h : l[j]? = some x) : (bfTs l)[j]? = some (.int .u32 x.t) := by unfold bfTs; rw [List.getElem?_map, h]; rfl
set_option maxRecDepth 100000 in
set_option maxHeartbeats 1600000 in
theorem bfTimes_any {w : World} {base gb : Nat} {s : BS} {v : Value} {l : List BF} (h : BIn w base gb s v l) (hln : l.length ≤ 100000) :
    Calls Try.prog 12 #[.pointer (some ⟨gb, 0, none⟩)] w fun e w' => ∃ v', e = .returned v' ∧ OwnE w' w.heap.size 30 1 v' l.length (bfTs l) ∧ Below w.heap.size w w' := by
  obtain ⟨i0, hi, hz0, hz1, hz2⟩ := info_parts infoU32
  obtain ⟨a, c, rfl⟩ := h.own.formG
  have HB := Lib.hid (fun W (hb : Below w.heap.size w W) => h.later hb)
  have HT := Lib.hid (bfTs_take l)
  have HL := Lib.hid (fun k => bfTs_len (l.take k))
  obtain ⟨_, _, _, _, _, _, _, _, _, _⟩ := AtS.cells10 h.at10
  clear h
  go_enter Try.func12, Try.ntmps12
  go_wp2_with (at_make; refine wpList_make_full w rfl _ _ 34 rfl w.heap.size 30 i0 (.int .u32 0) 1 Try.underlying34 hi hz0 hz1 .i64 .i64 _ _ l.length rfl rfl rfl rfl ?_ ?_ (Nat.le_refl _) ?_)
  · first | omega | (unfold maxLen; omega) | (rw [hz2]; omega)
  · first | omega | (unfold maxLen; omega) | (rw [hz2]; omega)
  intro w2 hown hgrow
  rw [madeU32] at hown
  have hO2 := ownE_of hown
  have hb2 : Below w.heap.size w w2 := (Below.refl _ _).grown hgrow (Nat.le_refl _) (by intro k hk; cases hk)
  obtain ⟨_, _, _, _, _, _, _, _, _, _⟩ := AtS.cells10 (HB.out w2 hb2).at10
  generalize hgs : w.heap.size = gs at hO2 hb2 ⊢
  have HG := Lib.hid hgs
  clear hgrow hown hgs
  go_wp2_with fail
  go_loopw [17] (fun i wr => ∃ k : Nat, k ≤ l.length ∧ i = .int .i64 k ∧ OwnE wr gs 30 1 (.slice (some ⟨gs, 0, none⟩) l.length l.length) l.length (bfTs (l.take k) ++ List.replicate (l.length - k) (.int .u32 0)) ∧ Below gs w wr) (fun i _ => l.length - (intOf i).toNat)
  case atStart => exact ⟨0, Nat.zero_le _, rfl, hO2, hb2⟩
  case round =>
    obtain ⟨k, hk, rfl, hO, hb⟩ := hrel
    clear hO2 hb2
    by_cases hlt : k < l.length
    · obtain ⟨x, hr⟩ : ∃ r, l[k]? = some r := ⟨_, List.getElem?_eq_getElem hlt⟩
      have hBr := HB.out wr (by rw [HG.out]; exact hb)
      obtain ⟨g, off, c', hv, _, _, hpc, _⟩ := bfV_at hBr.own k x hr
      cases hv
      have HF := Lib.hid (hBr.fr.fr x (List.mem_of_getElem? hr))
      have HT1 := Lib.hid (HT.out k x hr)
      have hl1 := HL.out k
      rw [List.length_take, Nat.min_eq_left (by omega)] at hl1
      clear hr hBr
      go_upto_region 5 with fail
      obtain ⟨gz, oz, cz, ez, _, _, _, _, hcz⟩ := hO.row (by omega)
      cases ez
      obtain ⟨hw1, hw2⟩ := hcz k ((bfTs (l.take k) ++ List.replicate (l.length - k) (Value.int .u32 0))[k]'(by rw [List.length_append, List.length_replicate, hl1]; omega)) (List.getElem?_eq_getElem _)
      have hset := hO.setAt k (.int .u32 x.t) (by rw [List.length_append, List.length_replicate, hl1]; omega)
      obtain ⟨q, hq⟩ : ∃ q, l.length - k = q + 1 := ⟨l.length - k - 1, by omega⟩
      have hset2 : OwnE (wr.setCell ⟨gs, 0 + k, none⟩ (.int .u32 x.t)) gs 30 1 (.slice (some ⟨gs, 0, none⟩) l.length l.length) l.length (bfTs (l.take (k + 1)) ++ List.replicate (l.length - (k + 1)) (.int .u32 0)) := by
        have e : (bfTs (l.take k) ++ List.replicate (l.length - k) (Value.int .u32 0)).set k (.int .u32 x.t) = bfTs (l.take (k + 1)) ++ List.replicate (l.length - (k + 1)) (.int .u32 0) := by
          have h2 := set_restG (bfTs (l.take k)) q (.int .u32 0) (.int .u32 x.t)
          rw [hl1] at h2
          rw [hq, h2, HT1.out]
          congr 2
          omega
        rw [← e]
        exact hset
      rw [Nat.zero_add] at hset2 hw1 hw2
      have hb4 := hb.trans (((Only.refl gs wr).setCell k (.int .u32 x.t)).below (Nat.le_refl _))
      clear hset hcz hO hb hq
      generalize (bfTs (l.take k) ++ List.replicate (l.length - k) (Value.int .u32 0))[k]'_ = old at hw1
      go_wp2_with fail
      refine (spTime_q HF.out).mono ?_
      rintro e w' ⟨rfl, hq⟩
      subst hq
      go_wp2_with fail
      go_roundw
      case rel => exact ⟨k + 1, by omega, by go_num, hset2, hb4⟩
      case measure => simp [intOf]; omega
    · obtain rfl : k = l.length := by omega
      rw [List.take_length, Nat.sub_self, List.replicate_zero, List.append_nil] at hO
      go_wp2_with fail
      go_ret
      exact ⟨_, rfl, by rw [HG.out]; exact hO, by rw [HG.out]; exact hb⟩
/-- A Buffer, and a map apart of it. -/
structure RiIn (w0 W : World) (g B gb gm : Nat) (n c : Nat) (s : BS) (v : Value) (l : List BF) (f : Int → Option Bool) : Prop where
  bin : BIn W B gb s v l
  map : MapU W gm n f c
  out : ¬ Foot gb v l gm
  bel : Below g w0 W
  gB : g ≤ B
  gg : g ≤ gm
section
variable {w0 W W' : World} {g B gb gm n c : Nat} {s s' : BS} {v v' : Value} {l l' : List BF} {f : Int → Option Bool}
theorem RiIn.lt (h : RiIn w0 W g B gb gm n c s v l f) : g < W.heap.size := Nat.lt_of_le_of_lt h.gg h.map.lt
theorem RiIn.later (h : RiIn w0 W g B gb gm n c s v l f) (hb : Below W.heap.size W W') : RiIn w0 W' g B gb gm n c s v l f :=
  ⟨h.bin.later hb, h.map.same (hb.block _ h.map.lt), h.out, h.bel.trans (hb.mono (Nat.le_of_lt h.lt)), h.gB, h.gg⟩
theorem RiIn.put (h : RiIn w0 W g B gb gm n c s v l f) {n' c' : Nat} {f' : Int → Option Bool} (hm : MapU W' gm n' f' c') (hg : W.grownBy W' (some gm)) : RiIn w0 W' g B gb gm n' c' s v l f' := by
  refine ⟨h.bin.keep hg.size (fun k hf => hg.block k (h.bin.foot_lt hf) (fun e => ?_)), hm, h.out, ?_, h.gB, h.gg⟩
  · cases e
    exact h.out hf
  · exact h.bel.grown hg (Nat.le_of_lt h.lt) (fun q hq => by cases hq; exact h.gg)
theorem RiIn.next (h : RiIn w0 W g B gb gm n c s v l f) (hI : BIn W' B gb s' v' l') (hK : BKeep gb v l W W' v' l') (hB : Below B W W') : RiIn w0 W' g B gb gm n c s' v' l' f :=
  ⟨hI, h.map.same (hK.block _ h.map.lt h.out), fun e => (hK.foot _ e).elim h.out (fun e => by have := h.map.lt; omega), h.bel.trans (hB.mono h.gB), h.gB, h.gg⟩
end
/-- What is over is so. -/
def RiOv (P : Int → Prop) (f : Int → Option Bool) : Prop := ∀ y, f y = none ∨ (f y = some true ∧ P y)
theorem riOv_none (P : Int → Prop) : RiOv P (fun _ => none) := fun _ => .inl rfl
theorem RiOv.mono {P Q : Int → Prop} {f : Int → Option Bool} (h : RiOv P f) (hq : ∀ y, P y → Q y) : RiOv Q f := fun y => (h y).elim .inl (fun e => .inr ⟨e.1, hq y e.2⟩)
theorem RiOv.no {P : Int → Prop} {f : Int → Option Bool} (h : RiOv P f) {y : Int} (hy : ¬ P y) : f y = none := (h y).elim id (fun e => absurd e.2 hy)
theorem nodup_at {X : List Int} (h : X.Nodup) {j : Nat} {x : Int} (hj : X[j]? = some x) : x ∉ X.take j := by
  intro e
  obtain ⟨i, hi⟩ := List.mem_iff_getElem?.1 e
  rw [List.getElem?_take] at hi
  split at hi
  · rename_i hij
    have h1 := (List.getElem?_eq_some_iff.1 hj)
    have h2 := (List.getElem?_eq_some_iff.1 hi)
    obtain ⟨a, ha⟩ := h1
    obtain ⟨b, hb⟩ := h2
    exact (List.pairwise_iff_getElem.1 h) i j b a hij (by rw [hb, ha])
  · cases hi
theorem RiOv.step {P : Int → Prop} {X : List Int} {f : Int → Option Bool} {j : Nat} {x : Int} (h : RiOv (fun y => P y ∨ y ∈ X.take j) f) (hj : X[j]? = some x) : RiOv (fun y => P y ∨ y ∈ X.take (j + 1)) (fun y => if y = x then some true else f y) := fun y => by
  have e : X.take (j + 1) = X.take j ++ [x] := by rw [List.take_add_one, hj]; rfl
  rw [e]
  show (if y = x then some true else f y) = none ∨ ((if y = x then some true else f y) = some true ∧ _)
  by_cases hx : y = x
  · rw [if_pos hx]
    exact .inr ⟨rfl, .inr (by rw [hx]; simp)⟩
  · rw [if_neg hx]
    rcases h y with h | ⟨h1, h | h⟩
    · exact .inl h
    · exact .inr ⟨h1, .inl h⟩
    · exact .inr ⟨h1, .inr (by simp [h])⟩
/-- Numbers stay small. -/
structure RiBd (k : Nat) (last : Int) (s : BS) (l : List BF) : Prop where
  p0 : 0 ≤ s.pl
  d0 : 0 ≤ s.dr
  e0 : 0 ≤ s.ev
  cnt : s.pl + s.dr + s.ev + (l.length : Int) ≤ k
  ps : bfParts l ≤ k
  bs : bfBytes l ≤ 30 * k
  ff : ∀ x ∈ l, 0 ≤ x.f ∧ x.f ≤ 1099511627776
  le : s.least ≤ 4294967296
  l0 : -1 ≤ last
  ll : last < s.least
theorem bfLst_lt {l : List BF} (h : l.Pairwise (fun x y => x.t < y.t)) (d : Int) : ∀ x ∈ l, x.t < bfLst d l := by
  intro x hx
  rcases List.eq_nil_or_concat l with rfl | ⟨r, z, rfl⟩
  · cases hx
  · rw [List.concat_eq_append] at hx h ⊢
    rw [bfLst_snoc]
    rcases List.mem_append.1 hx with e | e
    · have := (List.pairwise_append.1 h).2.2 x e z (by simp)
      omega
    · have : x = z := by simpa using e
      subst this
      omega
theorem bfLst_or (d : Int) (l : List BF) : (l = [] ∧ bfLst d l = d) ∨ ∃ x ∈ l, bfLst d l = x.t + 1 := by
  rcases List.eq_nil_or_concat l with rfl | ⟨r, z, rfl⟩
  · exact .inl ⟨rfl, rfl⟩
  · rw [List.concat_eq_append, bfLst_snoc]
    exact .inr ⟨z, by simp, rfl⟩
/-- Times that a call tells: none twice, from the least one on, below the new least one. -/
structure RiGo (lo hi : Int) (X : List Int) : Prop where
  nd : X.Nodup
  lo : ∀ x ∈ X, lo ≤ x
  hi : ∀ x ∈ X, x < hi
theorem up_nodup {l : List BF} (h : l.Pairwise (fun x y => x.t < y.t)) : (l.map BF.t).Nodup := by
  unfold List.Nodup
  rw [List.pairwise_map]
  exact h.imp (fun {a b} e => by omega)
theorem riPut {F Pk B t i c now kd : Int} {k : Nat} {last : Int} {s s' : BS} {l gone l' : List BF} {d : ByteArray} (h : PutEnd F Pk B s l t i c d now kd gone s' l') (hb : RiBd k last s l) (hu : BUp s.least l) (hd : d.size ≤ 30) (t1 : t ≤ 4294967295) :
    RiBd (k + 1) last s' l' ∧ RiGo s.least s'.least (gone.map BF.t) ∧ s.least ≤ s'.least ∧ s'.pl = s.pl ∧ s'.dr = s.dr ∧ s'.ev = s.ev + gone.length := by
  obtain ⟨b1, b2, b3, b4, b5, b6, b7, b8, b9, b10⟩ := hb
  have hsame : RiBd (k + 1) last s l ∧ RiGo s.least s.least (([] : List BF).map BF.t) ∧ s.least ≤ s.least ∧ s.pl = s.pl ∧ s.dr = s.dr ∧ s.ev = s.ev + ([] : List BF).length :=
    ⟨⟨b1, b2, b3, by push_cast; omega, by omega, by omega, b7, b8, b9, b10⟩, ⟨by simp, by simp, by simp⟩, Int.le_refl _, rfl, rfl, by simp⟩
  cases h with
  | late h => exact hsame
  | bad h hb => exact hsame
  | put h hg j0 x l1 l2 m P' r j hf hp h2 hj ho hn hup kd hkd =>
    obtain ⟨s1, s2, s3⟩ := hf.sums
    have q1 := bfParts_set hf.at m P'
    have q2 := bfBytes_set hf.at m P'
    have htw := hp.two
    have hlen : l2.length = l1.length := by rw [h2, List.length_set]
    rw [← h2] at q1 q2
    have r1 : bfParts l2 ≤ bfParts l + 1 := by
      rcases htw with ⟨_, e, _⟩ | ⟨_, e, _⟩ <;> omega
    have r2 : bfBytes l2 ≤ bfBytes l + 30 := by
      rcases htw with ⟨_, _, e⟩ | ⟨_, _, e⟩ <;> omega
    have hmem : ∀ y ∈ l2, (0 ≤ y.f ∧ y.f ≤ 1099511627776) ∧ s.least ≤ y.t ∧ y.t ≤ 4294967295 := by
      have h1 : ∀ y ∈ l1, (0 ≤ y.f ∧ y.f ≤ 1099511627776) ∧ s.least ≤ y.t ∧ y.t ≤ 4294967295 := by
        intro y hy
        cases hf with
        | old hx ht => exact ⟨b7 y hy, hu.lo y hy, hu.tb y hy⟩
        | new hk hno ht hc hff hm hP =>
          rcases List.mem_append.1 hy with e | e
          · have e2 := List.mem_of_mem_take e
            exact ⟨b7 y e2, hu.lo y e2, hu.tb y e2⟩
          · rcases List.mem_cons.1 e with e | e
            · subst e
              refine ⟨?_, by omega, by omega⟩
              rw [hff]
              exact ⟨am_lo _ _ _ (by omega), am_hi _ _ _⟩
            · have e2 := List.mem_of_mem_drop e
              exact ⟨b7 y e2, hu.lo y e2, hu.tb y e2⟩
      intro y hy
      rw [h2] at hy
      rcases mem_set hy with e | ⟨e, _⟩
      · have := h1 x (List.mem_of_getElem? hf.at)
        rw [e]
        exact this
      · exact h1 y e
    have hut : (l2.take j).Pairwise (fun x y => x.t < y.t) := hup.sublist (List.take_sublist _ _)
    have hl : s.least ≤ bfLst s.least (l2.take j) ∧ bfLst s.least (l2.take j) ≤ 4294967296 := by
      rcases bfLst_or s.least (l2.take j) with ⟨_, e⟩ | ⟨z, hz, e⟩
      · rw [e]; exact ⟨Int.le_refl _, b8⟩
      · have := hmem z (List.mem_of_mem_take hz)
        rw [e]; omega
    have z1 := bfParts_drop l2 j
    have z2 := bfBytes_drop l2 j
    have hdl : (l2.drop j).length = l2.length - j := List.length_drop
    have htl : (l2.take j).length = j := by rw [List.length_take]; omega
    refine ⟨⟨b1, b2, by show 0 ≤ s.ev + j; omega, ?_, by omega, by omega, fun y hy => (hmem y (List.mem_of_mem_drop hy)).1, hl.2, b9, by show last < bfLst s.least (l2.take j); omega⟩, ⟨up_nodup hut, ?_, ?_⟩, hl.1, rfl, rfl, by rw [htl]⟩
    · show s.pl + s.dr + (s.ev + j) + ((l2.drop j).length : Int) ≤ ((k + 1 : Nat) : Int)
      rw [hdl]
      omega
    · intro y hy
      obtain ⟨z, hz, rfl⟩ := List.mem_map.1 hy
      exact (hmem z (List.mem_of_mem_take hz)).2.1
    · intro y hy
      obtain ⟨z, hz, rfl⟩ := List.mem_map.1 hy
      exact bfLst_lt hut _ z hz
theorem two_filters (L : List BF) (p q : BF → Bool) (h : ∀ x, p x = true → q x = false) : (L.filter p).length + (L.filter q).length ≤ L.length := by
  induction L with
  | nil => simp
  | cons x L ih =>
    by_cases hp : p x = true
    · rw [List.filter_cons_of_pos hp, List.filter_cons_of_neg (by rw [h x hp]; simp)]
      simp only [List.length_cons]
      omega
    · rw [List.filter_cons_of_neg hp]
      by_cases hq : q x = true
      · rw [List.filter_cons_of_pos hq]
        simp only [List.length_cons]
        omega
      · rw [List.filter_cons_of_neg hq]
        simp only [List.length_cons]
        omega
/-- What Play tells. -/
structure RiPl (k : Nat) (s : BS) (l : List BF) (F D : List BF) (s' : BS) (l' : List BF) : Prop where
  up : F.Pairwise (fun x y => x.t < y.t)
  gF : RiGo s.least s'.least (F.map BF.t)
  gD : RiGo s.least s'.least (D.map BF.t)
  ap : ∀ y ∈ D.map BF.t, y ∉ F.map BF.t
  le : s.least ≤ s'.least
  tb : ∀ x ∈ F, x.t ≤ 4294967295
  pl : s'.pl = s.pl + F.length
  dr : s'.dr = s.dr + D.length
  ev : s'.ev = s.ev
  bd : ∀ last, RiBd k last s l → ∀ last', -1 ≤ last' → last' < s'.least → RiBd k last' s' l'
theorem riPlay {k k0 : Nat} {last : Int} {s : BS} {l : List BF} (p q : BF → Bool) (hpq : ∀ x, p x = true → q x = false) (hk : k0 ≤ l.length) (hb : RiBd k last s l) (hu : BUp s.least l) :
    RiPl k s l ((l.take k0).filter p) ((l.take k0).filter q) { s with least := bfLst s.least (l.take k0), pl := s.pl + ((l.take k0).filter p).length, dr := s.dr + ((l.take k0).filter q).length } (l.drop k0) := by
  have hut : (l.take k0).Pairwise (fun x y => x.t < y.t) := hu.up.sublist (List.take_sublist _ _)
  have hlt := bfLst_lt hut s.least
  have hmt : ∀ x ∈ l.take k0, s.least ≤ x.t ∧ x.t ≤ 4294967295 := fun x hx => ⟨hu.lo x (List.mem_of_mem_take hx), hu.tb x (List.mem_of_mem_take hx)⟩
  have hle : s.least ≤ bfLst s.least (l.take k0) := by
    rcases bfLst_or s.least (l.take k0) with ⟨_, e⟩ | ⟨z, hz, e⟩
    · rw [e]; exact Int.le_refl _
    · have := hmt z hz
      rw [e]; omega
  have hgo : ∀ r : BF → Bool, RiGo s.least (bfLst s.least (l.take k0)) (((l.take k0).filter r).map BF.t) := fun r => by
    refine ⟨up_nodup (hut.sublist List.filter_sublist), ?_, ?_⟩
    · intro y hy
      obtain ⟨z, hz, rfl⟩ := List.mem_map.1 hy
      exact (hmt z (List.mem_filter.1 hz).1).1
    · intro y hy
      obtain ⟨z, hz, rfl⟩ := List.mem_map.1 hy
      exact hlt z (List.mem_filter.1 hz).1
  refine ⟨hut.sublist List.filter_sublist, hgo p, hgo q, ?_, hle, fun x hx => (hmt x (List.mem_filter.1 hx).1).2, rfl, rfl, rfl, ?_⟩
  · intro y hy hy2
    obtain ⟨a, ha, rfl⟩ := List.mem_map.1 hy
    obtain ⟨b, hb2, e⟩ := List.mem_map.1 hy2
    obtain ⟨ha1, ha2⟩ := List.mem_filter.1 ha
    obtain ⟨hb1, hb3⟩ := List.mem_filter.1 hb2
    obtain ⟨i, hi⟩ := List.mem_iff_getElem?.1 ha1
    obtain ⟨j, hj⟩ := List.mem_iff_getElem?.1 hb1
    have hij : i = j := by
      obtain ⟨i1, i2⟩ := List.getElem?_eq_some_iff.1 hi
      obtain ⟨j1, j2⟩ := List.getElem?_eq_some_iff.1 hj
      rcases Nat.lt_trichotomy i j with h | h | h
      · have := (List.pairwise_iff_getElem.1 hut) i j i1 j1 h
        rw [i2, j2] at this
        omega
      · exact h
      · have := (List.pairwise_iff_getElem.1 hut) j i j1 i1 h
        rw [i2, j2] at this
        omega
    subst hij
    rw [hi] at hj
    cases hj
    rw [hpq _ hb3] at ha2
    cases ha2
  · rintro last ⟨b1, b2, b3, b4, b5, b6, b7, b8, b9, b10⟩ last' c1 c2
    have h2 := two_filters (l.take k0) p q hpq
    have hdl : (l.drop k0).length = l.length - k0 := List.length_drop
    have htl : (l.take k0).length = k0 := by rw [List.length_take]; omega
    have z1 := bfParts_drop l k0
    have z2 := bfBytes_drop l k0
    refine ⟨by show 0 ≤ s.pl + _; omega, by show 0 ≤ s.dr + _; omega, b3, ?_, by omega, by omega, fun y hy => b7 y (List.mem_of_mem_drop hy), ?_, c1, c2⟩
    · show s.pl + (((l.take k0).filter p).length : Int) + (s.dr + (((l.take k0).filter q).length : Int)) + s.ev + ((l.drop k0).length : Int) ≤ k
      rw [hdl]
      omega
    · show bfLst s.least (l.take k0) ≤ 4294967296
      rcases bfLst_or s.least (l.take k0) with ⟨_, e⟩ | ⟨z, hz, e⟩
      · rw [e]; exact b8
      · have := hmt z hz
        rw [e]; omega
def bfActP : List (Value → Prop) := [isBool, isNum .u32, isNum .i64, isNum .i64, isNum .i64, isText, isNum .i64, isNum .i64]
theorem bfAct_at {w wr : World} {a : Option Addr} {n k : Nat} (h : Recs bfActP w a n) (hb : Below w.heap.size w wr) (hk : k < n) :
    ∃ b off, a = some ⟨b, off, none⟩ ∧ b < w.heap.size ∧ ∃ (pl : Bool) (tm ix ct lt : Int) (d : ByteArray) (dl ms : Int), (Lit.int .u32 tm).wf = true ∧ d.size ≤ 9223372036854775807 ∧ wr.cell? ⟨b, off + k * 8, none⟩ = some (.bool pl) ∧ wr.cell? ⟨b, off + k * 8 + 1, none⟩ = some (.int .u32 tm) ∧ wr.cell? ⟨b, off + k * 8 + 2, none⟩ = some (.int .i64 ix) ∧ wr.cell? ⟨b, off + k * 8 + 3, none⟩ = some (.int .i64 ct) ∧ wr.cell? ⟨b, off + k * 8 + 4, none⟩ = some (.int .i64 lt) ∧ wr.cell? ⟨b, off + k * 8 + 5, none⟩ = some (.string d) ∧ wr.cell? ⟨b, off + k * 8 + 6, none⟩ = some (.int .i64 dl) ∧ wr.cell? ⟨b, off + k * 8 + 7, none⟩ = some (.int .i64 ms) := by
  rcases h with h | ⟨b, off, rfl, hlt, hc⟩
  · omega
  · obtain ⟨v0, h0, pl, rfl⟩ := hc k hk 0 _ rfl
    obtain ⟨v1, h1, tm, rfl, wt⟩ := hc k hk 1 _ rfl
    obtain ⟨v2, h2, ix, rfl, _⟩ := hc k hk 2 _ rfl
    obtain ⟨v3, h3, ct, rfl, _⟩ := hc k hk 3 _ rfl
    obtain ⟨v4, h4, lt, rfl, _⟩ := hc k hk 4 _ rfl
    obtain ⟨v5, h5, d, rfl, wd⟩ := hc k hk 5 _ rfl
    obtain ⟨v6, h6, dl, rfl, _⟩ := hc k hk 6 _ rfl
    obtain ⟨v7, h7, ms, rfl, _⟩ := hc k hk 7 _ rfl
    have e := fun i => hb.cell (p := ⟨b, off + k * 8 + i, none⟩) hlt
    refine ⟨b, off, rfl, hlt, pl, tm, ix, ct, lt, d, dl, ms, wt, by unfold maxLen at wd; omega, ?_, ?_, ?_, ?_, ?_, ?_, ?_, ?_⟩
    · rw [hb.cell (p := ⟨b, off + k * 8, none⟩) hlt]; exact h0
    · rw [e 1]; exact h1
    · rw [e 2]; exact h2
    · rw [e 3]; exact h3
    · rw [e 4]; exact h4
    · rw [e 5]; exact h5
    · rw [e 6]; exact h6
    · rw [e 7]; exact h7
section
variable {T : TypeId} {W : World} {g : Nat} {c0 c1 c2 c3 c4 c5 c6 c7 : Value}
theorem AtS.cells8 (h : AtS T W g #[c0, c1, c2, c3, c4, c5, c6, c7]) : W.cell? ⟨g, 0, none⟩ = some c0 ∧ W.cell? ⟨g, 1, none⟩ = some c1 ∧ W.cell? ⟨g, 2, none⟩ = some c2 ∧ W.cell? ⟨g, 3, none⟩ = some c3 ∧ W.cell? ⟨g, 4, none⟩ = some c4 ∧ W.cell? ⟨g, 5, none⟩ = some c5 ∧ W.cell? ⟨g, 6, none⟩ = some c6 ∧ W.cell? ⟨g, 7, none⟩ = some c7 := by
  have f := fun i => h.cell i
  exact ⟨by simpa using f 0, by simpa using f 1, by simpa using f 2, by simpa using f 3, by simpa using f 4, by simpa using f 5, by simpa using f 6, by simpa using f 7⟩
theorem AtS.cells3 (h : AtS T W g #[c0, c1, c2]) : W.cell? ⟨g, 0, none⟩ = some c0 ∧ W.cell? ⟨g, 1, none⟩ = some c1 ∧ W.cell? ⟨g, 2, none⟩ = some c2 := by
  have f := fun i => h.cell i
  exact ⟨by simpa using f 0, by simpa using f 1, by simpa using f 2⟩
end
theorem riMapOwn {W W' : World} {b n c : Nat} {f : Int → Option Bool} {b0 : Nat} {e : TypeId} {size : Nat} {v : Value} {m : Nat} {xs : List Value} (h : OwnE W b0 e size v m xs) (hm : MapU W b n f c) (hg : W.grownBy W' (some b)) : OwnE W' b0 e size v m xs := by
  obtain ⟨es, cl, hh⟩ := hm.isMap
  exact h.keep hg.size (fun k cs hk hc => hg.block k (lt_of_block hc) (fun e => by cases e; rw [hh] at hc; cases hc))
theorem riCut (s : ByteArray) (m : Nat) : (cutB s m).size ≤ m := by
  unfold cutB
  split
  · rw [ByteArray.size_extract]; omega
  · omega
theorem riField (kd : Int) (a : Option Addr) (n c : Nat) (W : World) : (Instr.field 40 (.agg #[.int .i64 kd, .slice a n c]) 1).run Try.prog W = .ok (.slice a n c) W := by kernel_rfl
theorem riWf {t : Int} (h0 : 0 ≤ t) (h1 : t ≤ 4294967295) : (Lit.int .u32 t).wf = true := by
  simp [Lit.wf, IntKind.min, IntKind.max, IntKind.bits, IntKind.signed]; omega
theorem riBd32 {a : Int} (h : (Lit.int .u32 a).wf = true) : 0 ≤ a ∧ a ≤ 4294967295 := by
  simp [Lit.wf, IntKind.min, IntKind.max, IntKind.bits, IntKind.signed] at h; omega
theorem bfFs_at2 {l : List BF} {j : Nat} {x : BF} (h : l[j]? = some x) : (bfFs l)[j * 2]? = some (.int .u32 x.t) ∧ (bfFs l)[j * 2 + 1]? = some (.string (bfD x)) := bfFs_at h
theorem mapT_at {l : List BF} {j : Nat} {x : BF} (h : l[j]? = some x) : (l.map BF.t)[j]? = some x.t := by rw [List.getElem?_map, h]; rfl
theorem take_mapT (l : List BF) : (l.map BF.t).take l.length = l.map BF.t := List.take_of_length_le (by simp)
theorem riLast {last lo hi : Int} {F : List BF} (h1 : -1 ≤ last) (h2 : last < lo) (hle : lo ≤ hi) (hg : RiGo lo hi (F.map BF.t)) : -1 ≤ bfLst (last + 1) F - 1 ∧ bfLst (last + 1) F - 1 < hi := by
  rcases bfLst_or (last + 1) F with ⟨_, e⟩ | ⟨z, hz, e⟩
  · rw [e]; omega
  · have a := hg.lo z.t (List.mem_map.2 ⟨z, hz, rfl⟩)
    have b := hg.hi z.t (List.mem_map.2 ⟨z, hz, rfl⟩)
    rw [e]; omega
theorem riBefore {last lo hi : Int} {F : List BF} {j : Nat} {x : BF} (hup : F.Pairwise (fun x y => x.t < y.t)) (h2 : last < lo) (hg : RiGo lo hi (F.map BF.t)) (hx : F[j]? = some x) : bfLst (last + 1) (F.take j) - 1 < x.t := by
  have a := hg.lo x.t (List.mem_map.2 ⟨x, List.mem_of_getElem? hx, rfl⟩)
  rcases bfLst_or (last + 1) (F.take j) with ⟨_, e⟩ | ⟨z, hz, e⟩
  · rw [e]; omega
  · rw [e]
    obtain ⟨i, hi⟩ := List.mem_iff_getElem?.1 hz
    rw [List.getElem?_take] at hi
    split at hi
    · rename_i hij
      obtain ⟨i1, i2⟩ := List.getElem?_eq_some_iff.1 hi
      obtain ⟨j1, j2⟩ := List.getElem?_eq_some_iff.1 hx
      have := (List.pairwise_iff_getElem.1 hup) i j i1 j1 hij
      rw [i2, j2] at this
      omega
    · cases hi
namespace bufferRises
set_option maxRecDepth 100000 in
set_option maxHeartbeats 12800000 in
theorem walk (a00 a01 a02 : Int) (p1 : Option Addr) (len1 cap1 : Nat) (w00 : (Lit.int .i64 a00).wf = true) (w01 : (Lit.int .i64 a01).wf = true) (w02 : (Lit.int .i64 a02).wf = true) (w : World) (w1 : Recs bfActP w p1 len1) (hl1 : len1 ≤ 9223372036854775807) :
    Calls Try.prog 3 #[.agg #[.int .i64 a00, .int .i64 a01, .int .i64 a02], .slice p1 len1 cap1] w fun e w' => e = .returned (.bool true) ∧ Below w.heap.size w w' := by
  clear w00 w01 w02
  have hm15 : ∀ z : Int, bits .and .i64 z 15 = z % 16 := fun z => i64_mask z 4 (by omega)
  have hm31 : ∀ z : Int, bits .and .i64 z 31 = z % 32 := fun z => i64_mask z 5 (by omega)
  have hm63 : ∀ z : Int, bits .and .i64 z 63 = z % 64 := fun z => i64_mask z 6 (by omega)
  have HACT := Lib.hid (fun (k : Nat) (hk : k < len1) (W : World) (hb : Below w.heap.size w W) => bfAct_at w1 hb hk)
  clear w1
  have HA := Lib.hid (fun (W : World) => bfAwake_any W)
  have hX0 := atS_new 23 w w.heap.size #[.int .i64 a00, .int .i64 a01, .int .i64 a02] rfl
  have hb0 : Below w.heap.size w (w.alloc (.cells #[.int .i64 a00, .int .i64 a01, .int .i64 a02] 23)) := (Below.refl _ _).alloc (Nat.le_refl _) _
  go_enter Try.func3, Try.ntmps3
  go_upto_region 1 with fail
  generalize (w.alloc (.cells #[.int .i64 a00, .int .i64 a01, .int .i64 a02] 23)) = w0 at hX0 hb0 ⊢
  obtain ⟨g, hg⟩ : ∃ g, w.heap.size = g := ⟨_, rfl⟩
  rw [hg] at hX0 hb0 ⊢
  have HG := Lib.hid hg
  clear hg
  have hg0 : g ≤ w0.heap.size := by have := hb0.size; rw [HG.out] at this; exact this
  go_wp2_with fail
  refine (HA.out w0).mono ?_
  rintro e wa ⟨rfl, hba⟩
  have hXa := AtS.later hX0 hba
  have hb1 := hb0.trans (hba.mono hg0)
  have hga : g ≤ wa.heap.size := Nat.le_trans hg0 hba.size
  obtain ⟨_, _, _⟩ := AtS.cells3 hXa
  clear hX0 hb0 hba HA
  go_wp2_with fail
  refine (bfNew_any a00 a01 a02 wa).mono ?_
  rintro e wb ⟨gb, rfl, hIb, hkb⟩
  have hb2 := hb1.trans (hkb.mono hga)
  have hbl : Below wb.heap.size wb (wb.alloc (.map #[] 0)) := (Below.refl _ _).alloc (Nat.le_refl _) _
  have hI0 : RiIn w (wb.alloc (.map #[] 0)) g wa.heap.size gb wb.heap.size 0 0 ⟨am 1 a00 1024, am 1 a01 65536, am 1 a02 67108864, 0, 0, 0, 0⟩ (.slice none 0 0) [] (fun _ => none) := by
    have hgb := Nat.le_trans hga hkb.size
    exact ⟨hIb.later hbl, mapU_new wb, fun e => absurd (hIb.foot_lt e) (Nat.lt_irrefl _), hb2.trans (hbl.mono hgb), hga, hgb⟩
  have hmm := @run_makeMap Try.prog
  go_upto_region 8 with fail
  clear hmm
  generalize (wb.alloc (.map #[] 0)) = wc at hI0 ⊢
  generalize wb.heap.size = gm at hI0 ⊢
  generalize wa.heap.size = B at hI0 ⊢
  generalize am 1 a00 1024 = cf at hI0
  generalize am 1 a01 65536 = cp at hI0
  generalize am 1 a02 67108864 = cb at hI0
  clear hIb hkb hb2 hbl hb1 hXa
  have hB0 : RiBd 0 (-1) ⟨cf, cp, cb, 0, 0, 0, 0⟩ [] := ⟨Int.le_refl _, Int.le_refl _, Int.le_refl _, by simp, by simp [bfParts], by simp [bfBytes], by simp, by show (0 : Int) ≤ _; omega, Int.le_refl _, by show (-1 : Int) < 0; omega⟩
  have hV0 : Hid (RiOv (fun y => y < (⟨cf, cp, cb, 0, 0, 0, 0⟩ : BS).least) (fun _ => none)) := Lib.hid (riOv_none _)
  go_wp2_with fail
  go_loopw [6, 7, 9] (fun s6 s7 s9 wr => ∃ (k : Nat) (now last : Int) (n c : Nat) (s : BS) (v : Value) (l : List BF) (f : Int → Option Bool), k ≤ len1 ∧ k ≤ 60 ∧ s9 = .int .i64 k ∧ s6 = .int .i64 now ∧ s7 = .int .i64 last ∧ 0 ≤ now ∧ now ≤ 15 * k ∧ (n : Int) ≤ s.pl + s.dr + s.ev ∧ RiBd k last s l ∧ RiIn w wr g B gb gm n c s v l f ∧ Hid (RiOv (fun y => y < s.least) f)) (fun _ _ s9 _ => 60 - (intOf s9).toNat)
  case atStart => exact ⟨0, 0, -1, 0, 0, _, _, [], _, Nat.zero_le _, by omega, rfl, rfl, rfl, by omega, by omega, by simp, hB0, hI0, hV0⟩
  case round =>
    obtain ⟨k, now, last, n, c, s, v, l, f, hk, hk60, rfl, rfl, rfl, hn0, hn1, hnn, hbd, hI, HV⟩ := hrel
    clear hI0 hB0 hV0
    by_cases hlt : k < len1 ∧ k < 60
    · obtain ⟨hlt, hlt60⟩ := hlt
      obtain ⟨ab, off, rfl, habl, pl, tm, ix, ct, lt, d, dl, ms, wtm, wds, ha0, ha1, ha2, ha3, ha4, ha5, ha6, ha7⟩ := HACT.out k hlt wr (by rw [HG.out]; exact hI.bel)
      have hY := atS_new 32 wr wr.heap.size #[.bool pl, .int .u32 tm, .int .i64 ix, .int .i64 ct, .int .i64 lt, .string d, .int .i64 dl, .int .i64 ms] rfl
      have hal : Below wr.heap.size wr (wr.alloc (.cells #[.bool pl, .int .u32 tm, .int .i64 ix, .int .i64 ct, .int .i64 lt, .string d, .int .i64 dl, .int .i64 ms] 32)) := (Below.refl _ _).alloc (Nat.le_refl _) _
      have hJ := hI.later hal
      have hwn : IntKind.i64.wrap (now + lt % 16) = now + lt % 16 := IntWalk.i64_in _ ⟨by omega, by omega⟩
      obtain ⟨t0, t1⟩ := riBd32 wtm
      go_upto_region 12 with fail
      generalize (wr.alloc (.cells #[.bool pl, .int .u32 tm, .int .i64 ix, .int .i64 ct, .int .i64 lt, .string d, .int .i64 dl, .int .i64 ms] 32)) = w3 at hY hJ ⊢
      generalize wr.heap.size = ga at hY ⊢
      clear hal hI ha0 ha1 ha2 ha3 ha4 ha5 ha6 ha7
      have hc8 := AtS.cells8 hY
      obtain ⟨_, c1, c2, c3, _, c5, _, _⟩ := hc8
      go_upto_region 13 with (rw [hm15])
      have hq0 : 0 ≤ now + lt % 16 := by omega
      have hq1 : now + lt % 16 ≤ 15 * ((k : Int) + 1) := by omega
      generalize now + lt % 16 = nw at hq0 hq1 ⊢
      clear hwn hn0 hn1
      have hb' := hbd
      obtain ⟨b1, b2, b3, b4, b5, b6, b7, b8, b9, b10⟩ := hb'
      cases pl with
      | true =>
        have HP := Lib.hid (bfPlay_any hJ.bin nw (dl % 32) (ms % 64) (by omega) (by omega) (by omega) b7 ⟨b1, by omega⟩ ⟨b2, by omega⟩)
        have HUP := Lib.hid hJ.bin.up
        go_wp2_with (first | rw [hm31] | rw [hm63])
        refine HP.out.mono ?_
        rintro e w4 ⟨k4, pv, dv, v4, hPl, rfl, hp4, hd4, hI4, hK4, hB4⟩
        have hR := riPlay (k := k) (bfPq (am 0 nw 1099511627776) (dl % 32)) (bfDq (am 0 nw 1099511627776) (dl % 32) (ms % 64)) (fun x hx => by simp [bfDq, hx]) hPl.le hbd HUP.out
        have hJ4 := hJ.next hI4 hK4 hB4
        generalize hFF : (l.take k4).filter (bfPq (am 0 nw 1099511627776) (dl % 32)) = F at *
        generalize hDD : (l.take k4).filter (bfDq (am 0 nw 1099511627776) (dl % 32) (ms % 64)) = D at *
        generalize ({ s with least := bfLst s.least (l.take k4), pl := s.pl + (F.length : Int), dr := s.dr + (D.length : Int) } : BS) = s9 at *
        generalize l.drop k4 = l9 at *
        have HR := Lib.hid hR
        have hFl : (F.length : Int) + D.length + s.ev + s.pl + s.dr ≤ k := by
          have h1 := hR.pl
          have h2 := hR.dr
          have h3 := hR.ev
          obtain ⟨y1, y2⟩ := riLast b9 b10 hR.le hR.gF
          have := (hR.bd last hbd _ y1 y2).cnt
          omega
        obtain ⟨pa, pc, rfl⟩ := hp4.formG
        obtain ⟨da, dc, rfl⟩ := hd4.formG
        generalize w3.heap.size = G4 at hp4 hd4
        have HBD := Lib.hid hbd
        clear hPl hI4 hK4 hB4 HP hJ hY hFF hDD hR hbd c1 c2 c3 c5 b7
        go_wp2_with fail
        go_loopw [7, 63] (fun s7 i wz => ∃ (j n' c' : Nat) (f' : Int → Option Bool), j ≤ F.length ∧ i = .int .i64 j ∧ s7 = .int .i64 (bfLst (last + 1) (F.take j) - 1) ∧ n' ≤ n + j ∧ OwnE wz G4 38 2 (.slice pa F.length pc) F.length (bfFs F) ∧ OwnE wz G4 30 1 (.slice da D.length dc) D.length (bfTs D) ∧ RiIn w wz g B gb gm n' c' s9 v4 l9 f' ∧ Hid (RiOv (fun y => y < s.least ∨ y ∈ (F.map BF.t).take j) f')) (fun _ i _ => F.length - (intOf i).toNat)
        case atStart => exact ⟨0, n, c, f, Nat.zero_le _, rfl, by show Value.int .i64 last = Value.int .i64 (last + 1 - 1); congr 1; omega, by omega, hp4, hd4, hJ4, Lib.hid (HV.out.mono (fun y hy => .inl hy))⟩
        case round =>
          obtain ⟨j, n', c', f', hj, rfl, rfl, hn', hO, hO2, hR, HVj⟩ := hrel
          clear hp4 hd4 hJ4
          rename World => wz
          by_cases hjl : j < F.length
          · have hx := List.getElem?_eq_getElem hjl
            generalize F[j] = x at hx
            have hxm := List.mem_of_getElem? hx
            obtain ⟨gt, ot, cc, e6, _, _, _, _, hcz⟩ := hO.1.cells (by omega)
            cases e6
            obtain ⟨r0, r1⟩ := bfFs_at2 hx
            have q0 : wz.cell? ⟨gt, ot + j * 2, none⟩ = some (.int .u32 x.t) := (hcz _ _ r0).1
            have q1 : wz.cell? ⟨gt, ot + j * 2 + 1, none⟩ = some (.string (bfD x)) := (hcz _ _ r1).1
            have x0 := HR.out.gF.lo x.t (List.mem_map.2 ⟨x, hxm, rfl⟩)
            have x1 := HR.out.tb x hxm
            have hbf := riBefore HR.out.up b10 HR.out.gF hx
            have hfx := HVj.out.no (y := x.t) (fun e => e.elim (fun e => by omega) (nodup_at HR.out.gF.nd (mapT_at hx)))
            have HV2 := Lib.hid (HVj.out.step (mapT_at hx))
            have hwf := riWf (t := x.t) (by omega) x1
            have hwx : IntKind.i64.wrap x.t = x.t := IntWalk.i64_in _ ⟨by omega, by omega⟩
            have hls : bfLst (last + 1) (F.take (j + 1)) - 1 = x.t := by rw [bf_take hx, bfLst_snoc]; omega
            have HLS := Lib.hid hls
            generalize bfLst (last + 1) (F.take j) - 1 = la at hbf ⊢
            have hdl : decide (x.t ≤ la) = false := decide_eq_false (by omega)
            generalize hbx : bfD x = bx at *
            generalize x.t = t at *
            have hY := atS_new 38 wz wz.heap.size #[.int .u32 t, .string bx] rfl
            have hal : Below wz.heap.size wz (wz.alloc (.cells #[.int .u32 t, .string bx] 38)) := (Below.refl _ _).alloc (Nat.le_refl _) _
            have hO3 := hO.later hal
            have hO4 := hO2.later hal
            have hR3 := hR.later hal
            have i0 : (0 : Int) ≤ (j : Int) := by omega
            have i1 : (j : Int) < (F.length : Int) := by omega
            clear hcz hx hxm r0 r1 hbf hls hbx
            go_upto_region 18 with fail
            generalize (wz.alloc (.cells #[.int .u32 t, .string bx] 38)) = w5 at hY hO3 hO4 hR3 ⊢
            generalize wz.heap.size = gy at hY ⊢
            clear hal hO hO2 hR q0 q1
            obtain ⟨_, _⟩ := AtS.cells2 hY
            have hlk := hR3.map.eq (x := t) hwf
            rw [hfx] at hlk
            simp only [Option.getD] at hlk
            go_wp2_with (at_mapUpdate; refine wpList_putU _ rfl _ _ _ rfl gm n' c' f' rfl hR3.map ?m0 t true rfl ?m1 rfl ?_)
            case m0 => unfold maxLen; omega
            case m1 => exact hwf
            intro w6 hM6 hg6
            have hR6 := hR3.put hM6 hg6
            have hO6 := riMapOwn hO3 hR3.map hg6
            have hO7 := riMapOwn hO4 hR3.map hg6
            clear hM6 hg6 hR3 hO3 hO4 hlk hY
            go_wp2_with fail
            go_roundw
            case rel => exact ⟨j + 1, n' + 1, _, _, by omega, by go_num, by rw [HLS.out], by omega, hO6, hO7, hR6, HV2⟩
            case measure => simp [intOf]; omega
          · obtain rfl : j = F.length := by omega
            rw [take_mapT] at HVj
            rw [List.take_length]
            have hJ4 := hR
            clear hR hO
            obtain ⟨y1, y2⟩ := riLast b9 b10 HR.out.le HR.out.gF
            have hbT := HR.out.bd last HBD.out _ y1 y2
            have hbT : RiBd (k + 1) (bfLst (last + 1) F - 1) s9 l9 := ⟨hbT.p0, hbT.d0, hbT.e0, by have := hbT.cnt; push_cast; omega, by have := hbT.ps; omega, by have := hbT.bs; omega, hbT.ff, hbT.le, hbT.l0, hbT.ll⟩
            generalize bfLst (last + 1) F - 1 = last9 at *
            go_wp2_with fail
            go_loopw [87] (fun i wz => ∃ (j2 n2 c2 : Nat) (f2 : Int → Option Bool), j2 ≤ D.length ∧ i = .int .i64 j2 ∧ n2 ≤ n + F.length + j2 ∧ OwnE wz G4 30 1 (.slice da D.length dc) D.length (bfTs D) ∧ RiIn w wz g B gb gm n2 c2 s9 v4 l9 f2 ∧ Hid (RiOv (fun y => (y < s.least ∨ y ∈ F.map BF.t) ∨ y ∈ (D.map BF.t).take j2) f2)) (fun i _ => D.length - (intOf i).toNat)
            case atStart => exact ⟨0, n', c', f', Nat.zero_le _, rfl, by omega, hO2, hJ4, Lib.hid (HVj.out.mono (fun y hy => .inl hy))⟩
            case round =>
              obtain ⟨j2, n2, c2, f2, hj2, rfl, hn2, hO, hR, HVk⟩ := hrel
              clear hO2 hJ4 HVj
              rename World => wz
              by_cases hjl : j2 < D.length
              · have hx := List.getElem?_eq_getElem hjl
                generalize D[j2] = x at hx
                have hxm := List.mem_of_getElem? hx
                obtain ⟨gt, ot, cc, e6, _, _, _, _, hcz⟩ := hO.1.cells (by omega)
                cases e6
                have q0 := (hcz _ _ (bfTs_at hx)).1
                have x0 := HR.out.gD.lo x.t (List.mem_map.2 ⟨x, hxm, rfl⟩)
                have x1 := HR.out.gD.hi x.t (List.mem_map.2 ⟨x, hxm, rfl⟩)
                have x2 := hbT.le
                have hap := HR.out.ap x.t (List.mem_map.2 ⟨x, hxm, rfl⟩)
                have hfx := HVk.out.no (y := x.t) (fun e => e.elim (fun e => e.elim (fun e => by omega) hap) (nodup_at HR.out.gD.nd (mapT_at hx)))
                have HV2 := Lib.hid (HVk.out.step (mapT_at hx))
                have hwf := riWf (t := x.t) (by omega) (by omega)
                generalize x.t = t at *
                have hlk := hR.map.eq (x := t) hwf
                rw [hfx] at hlk
                simp only [Option.getD] at hlk
                have i0 : (0 : Int) ≤ (j2 : Int) := by omega
                have i1 : (j2 : Int) < (D.length : Int) := by omega
                clear hcz hx hxm
                go_wp2_with (at_mapUpdate; refine wpList_putU _ rfl _ _ _ rfl gm n2 c2 f2 rfl hR.map ?m0 t true rfl ?m1 rfl ?_)
                case m0 => unfold maxLen; omega
                case m1 => exact hwf
                intro w6 hM6 hg6
                have hR6 := hR.put hM6 hg6
                have hO6 := riMapOwn hO hR.map hg6
                clear hM6 hg6 hR hO hlk
                go_wp2_with fail
                go_roundw
                case rel => exact ⟨j2 + 1, n2 + 1, _, _, by omega, by go_num, by omega, hO6, hR6, HV2⟩
                case measure => simp [intOf]; omega
              · obtain rfl : j2 = D.length := by omega
                rw [take_mapT] at HVk
                have HVT : Hid (RiOv (fun y => y < s9.least) f2) := Lib.hid (HVk.out.mono (fun y hy => by
                  have := HR.out.le
                  rcases hy with (hy | hy) | hy
                  · omega
                  · exact HR.out.gF.hi y hy
                  · exact HR.out.gD.hi y hy))
                have hT := hR
                have hnT : (n2 : Int) ≤ s9.pl + s9.dr + s9.ev := by rw [HR.out.pl, HR.out.dr, HR.out.ev]; omega
                clear hO HVk hR
                generalize n2 = n9 at *
                generalize c2 = c9 at *
                generalize f2 = f9 at *
                generalize v4 = v9 at *
                have hl9 : l9.length ≤ 100000 := by have := hbT.cnt; have := hbT.p0; have := hbT.d0; have := hbT.e0; omega
                have HT9 := Lib.hid (bfTimes_any hT.bin hl9)
                have h9le := hbT.le
                go_wp2_with fail
                refine HT9.out.mono ?_
                rintro e w8 ⟨tv, rfl, hT8, hb8⟩
                have hJ8 := hT.later hb8
                clear HT9 hT hb8
                obtain ⟨ta, tc, rfl⟩ := hT8.formG
                generalize wz.heap.size = G8 at hT8
                go_wp2_with fail
                go_loopw [125] (fun i wz => ∃ j : Nat, j ≤ l9.length ∧ i = .int .i64 j ∧ OwnE wz G8 30 1 (.slice ta l9.length tc) l9.length (bfTs l9) ∧ RiIn w wz g B gb gm n9 c9 s9 v9 l9 f9) (fun i _ => l9.length - (intOf i).toNat)
                case atStart => exact ⟨0, Nat.zero_le _, rfl, hT8, hJ8⟩
                case round =>
                  obtain ⟨j, hj, rfl, hO, hR⟩ := hrel
                  clear hT8 hJ8
                  by_cases hjl : j < l9.length
                  · have hx := List.getElem?_eq_getElem hjl
                    generalize l9[j] = x at hx
                    have hxm := List.mem_of_getElem? hx
                    obtain ⟨gt, ot, cc, e6, _, _, _, _, hcz⟩ := hO.1.cells (by omega)
                    cases e6
                    have q0 := (hcz _ _ (bfTs_at hx)).1
                    have x0 := hR.bin.up.lo x hxm
                    have x1 := hR.bin.up.tb x hxm
                    have x2 := hR.bin.up.l0
                    have hfx := HVT.out.no (y := x.t) (by omega)
                    have hlk := hR.map.eq (x := x.t) (riWf (by omega) x1)
                    rw [hfx] at hlk
                    simp only [Option.getD] at hlk
                    have hwx : IntKind.i64.wrap x.t = x.t := IntWalk.i64_in _ ⟨by omega, by omega⟩
                    have hdx : decide (x.t ≤ s9.least - 1) = false := decide_eq_false (by omega)
                    have HHR := Lib.hid (bfHor_q hR.bin h9le)
                    have i0 : (0 : Int) ≤ (j : Int) := by omega
                    have i1 : (j : Int) < (l9.length : Int) := by omega
                    clear hcz hx hxm
                    go_wp2_with fail
                    refine HHR.out.mono ?_
                    rintro e w' ⟨rfl, hq⟩
                    subst hq
                    go_wp2_with fail
                    go_roundw
                    case rel => exact ⟨j + 1, by omega, by go_num, hO, hR⟩
                    case measure => simp [intOf]; omega
                  · obtain rfl : j = l9.length := by omega
                    go_wp2_with fail
                    go_roundw
                    case rel => exact ⟨k + 1, nw, last9, n9, c9, s9, v9, l9, f9, by omega, by omega, by go_num, rfl, rfl, hq0, by push_cast; omega, hnT, hbT, hR, HVT⟩
                    case measure => simp [intOf]; omega
      | false =>
        have hcs := riCut d 30
        have HCUT := Lib.hid (fun W => cut_any d 30 W wds (by omega))
        obtain ⟨d', hd'⟩ : ∃ d', cutB d 30 = d' := ⟨_, rfl⟩
        rw [hd'] at hcs HCUT
        clear hd'
        go_upto_region 30 with fail
        have hJd : RiIn w w3.drew g B gb gm n c s v l f := hJ.later (Below.refl _ _).drew
        have hYd := AtS.drew hY
        have hS3 := And.intro (AtS.cells8 hYd).2.1 (And.intro (AtS.cells8 hYd).2.2.1 (And.intro (AtS.cells8 hYd).2.2.2.1 (AtS.cells8 hYd).2.2.2.2.2.1))
        clear c1 c2 c3 c5
        refine wp_region_noPanic ?_
        refine ordM_begin (fun W : World => W.cell? ⟨ga, 1, none⟩ = some (.int .u32 tm) ∧ W.cell? ⟨ga, 2, none⟩ = some (.int .i64 ix) ∧ W.cell? ⟨ga, 3, none⟩ = some (.int .i64 ct) ∧ W.cell? ⟨ga, 5, none⟩ = some (.string d)) (fun i => false) (by kernel_rfl) hS3 ?_
        refine ordM_take 0 ?vq1 rfl (by kernel_rfl) (by kernel_rfl) (by kernel_rfl) (by kernel_rfl) (fun _ _ _ h => h) (by rfl) ?hq1 (by assumption) ?rq1
        case hq1 => (intro W hSw; (try dsimp only at hSw); go_simp <;> with_reducible rfl)
        (try simp only [Act.put, List.setIfInBounds_toArray, List.set_cons_zero, List.set_cons_succ])
        refine ordM_take 1 ?vq2 rfl (by kernel_rfl) (by kernel_rfl) (by kernel_rfl) (by kernel_rfl) (fun _ _ _ h => h) (by rfl) ?hq2 (by assumption) ?rq2
        case hq2 => (intro W hSw; (try dsimp only at hSw); go_simp <;> with_reducible rfl)
        (try simp only [Act.put, List.setIfInBounds_toArray, List.set_cons_zero, List.set_cons_succ])
        refine ordM_take 2 ?vq3 rfl (by kernel_rfl) (by kernel_rfl) (by kernel_rfl) (by kernel_rfl) (fun _ _ _ h => h) (by rfl) ?hq3 (by assumption) ?rq3
        case hq3 => (intro W hSw; (try dsimp only at hSw); go_simp <;> with_reducible rfl)
        (try simp only [Act.put, List.setIfInBounds_toArray, List.set_cons_zero, List.set_cons_succ])
        refine ordM_take 3 ?vq4 rfl (by kernel_rfl) (by kernel_rfl) (by kernel_rfl) (by kernel_rfl) (fun _ _ _ h => h) (by rfl) ?hq4 (by assumption) ?rq4
        case hq4 => (intro W hSw; (try dsimp only at hSw); go_simp <;> with_reducible rfl)
        (try simp only [Act.put, List.setIfInBounds_toArray, List.set_cons_zero, List.set_cons_succ])
        refine ordM_take 4 ?vq5 rfl (by kernel_rfl) (by kernel_rfl) (by kernel_rfl) (by kernel_rfl) (fun _ _ _ h => h) (by rfl) ?hq5 (by assumption) ?rq5
        case hq5 => (intro W hSw; (try dsimp only at hSw); go_simp <;> with_reducible rfl)
        (try simp only [Act.put, List.setIfInBounds_toArray, List.set_cons_zero, List.set_cons_succ])
        refine ordM_take 5 ?vq6 rfl (by kernel_rfl) (by kernel_rfl) (by kernel_rfl) (by kernel_rfl) (fun _ _ _ h => h) (by rfl) ?hq6 (by assumption) ?rq6
        case hq6 => (intro W hSw; (try dsimp only at hSw); go_simp <;> with_reducible rfl)
        (try simp only [Act.put, List.setIfInBounds_toArray, List.set_cons_zero, List.set_cons_succ])
        refine ordM_take 6 ?vq7 rfl (by kernel_rfl) (by kernel_rfl) (by kernel_rfl) (by kernel_rfl) (fun _ _ _ h => h) (by rfl) ?hq7 (by assumption) ?rq7
        case hq7 => (intro W hSw; (try dsimp only at hSw); go_simp <;> with_reducible rfl)
        (try simp only [Act.put, List.setIfInBounds_toArray, List.set_cons_zero, List.set_cons_succ])
        refine ordM_take 7 ?vq8 rfl (by kernel_rfl) (by kernel_rfl) (by kernel_rfl) (by kernel_rfl) (fun _ _ _ h => h) (by rfl) ?hq8 (by assumption) ?rq8
        case hq8 => (intro W hSw; (try dsimp only at hSw); go_simp <;> with_reducible rfl)
        (try simp only [Act.put, List.setIfInBounds_toArray, List.set_cons_zero, List.set_cons_succ])
        refine ordM_take 8 ?vq9 rfl (by kernel_rfl) (by kernel_rfl) (by kernel_rfl) (by kernel_rfl) (fun _ _ _ h => h) (by rfl) ?hq9 (by assumption) ?rq9
        case hq9 => (intro W hSw; (try dsimp only at hSw); go_simp <;> with_reducible rfl)
        (try simp only [Act.put, List.setIfInBounds_toArray, List.set_cons_zero, List.set_cons_succ])
        refine ordM_take 9 ?vq10 rfl (by kernel_rfl) (by kernel_rfl) (by kernel_rfl) (by kernel_rfl) (fun _ _ _ h => h) (by rfl) ?hq10 (by assumption) ?rq10
        case hq10 => (intro W hSw; (try dsimp only at hSw); go_simp <;> with_reducible rfl)
        (try simp only [Act.put, List.setIfInBounds_toArray, List.set_cons_zero, List.set_cons_succ])
        refine ordM_take 11 ?vq11 rfl (by kernel_rfl) (by kernel_rfl) (by kernel_rfl) (by kernel_rfl) (fun _ _ _ h => h) (by rfl) ?hq11 (by assumption) ?rq11
        case hq11 => (intro W hSw; (try dsimp only at hSw); go_simp <;> with_reducible rfl)
        (try simp only [Act.put, List.setIfInBounds_toArray, List.set_cons_zero, List.set_cons_succ])
        refine ordM_take 15 ?vq12 rfl (by kernel_rfl) (by kernel_rfl) (by kernel_rfl) (by kernel_rfl) (fun _ _ _ h => h) (by rfl) ?hq12 (by assumption) ?rq12
        case hq12 => (intro W hSw; (try dsimp only at hSw); go_simp <;> with_reducible rfl)
        (try simp only [Act.put, List.setIfInBounds_toArray, List.set_cons_zero, List.set_cons_succ])
        refine ordM_ready [10] (by kernel_rfl) (by simp) ?_
        refine AllReadyM.cons rfl (fun K hK => ?_) AllReadyM.nil
        go_simp
        go_at_call 11
        refine (HCUT.out _).mono ?_
        rintro e wq ⟨rfl, hq⟩
        subst hq
        (try go_wp2_with fail)
        refine hK.out _ _ (fun _ => hS3) ?_
        clear hK K
        (try simp only [Act.put, List.setIfInBounds_toArray, List.set_cons_zero, List.set_cons_succ])
        refine ordM_ready [12] (by kernel_rfl) (by simp) ?_
        refine AllReadyM.cons rfl (fun K hK => ?_) AllReadyM.nil
        go_simp
        go_at_call 10
        have HUP := Lib.hid hJd.bin.up
        refine (bfPut_any hJd.bin tm ix ct nw d' t0 t1 (by omega) (by omega) (by omega) b3 (by omega)).mono ?_
        rintro e w5 ⟨kd, gone, s9, v9, l9, ev, rfl, hP5, hT5, hI5, hK5, hB5⟩
        obtain ⟨ea, ec, rfl⟩ := hT5.formG
        (try go_wp2_with fail)
        have hY5 : AtS 32 w5 ga #[.bool false, .int .u32 tm, .int .i64 ix, .int .i64 ct, .int .i64 lt, .string d, .int .i64 dl, .int .i64 ms] := by
          have hh := hYd
          unfold AtS at hh ⊢
          rw [hK5.blk hJd.bin hh (by decide) (by decide) (by decide)]
          exact hh
        have hS6 := And.intro (AtS.cells8 hY5).2.1 (And.intro (AtS.cells8 hY5).2.2.1 (And.intro (AtS.cells8 hY5).2.2.2.1 (AtS.cells8 hY5).2.2.2.2.2.1))
        have hJ5 := hJd.next hI5 hK5 hB5
        clear hK5 hB5 hI5 hJd hJ hY5
        refine hK.out _ _ (fun _ => hS6) ?_
        clear hK K
        (try simp only [Act.put, List.setIfInBounds_toArray, List.set_cons_zero, List.set_cons_succ])
        refine ordM_take 13 ?vq13 rfl (by kernel_rfl) (by kernel_rfl) (by kernel_rfl) (by kernel_rfl) (fun _ _ _ h => h) (by rfl) ?hq13 (by assumption) ?rq13
        case hq13 => (intro W hSw; (try dsimp only at hSw); go_simp; rw [riField]; rfl)
        (try simp only [Act.put, List.setIfInBounds_toArray, List.set_cons_zero, List.set_cons_succ])
        refine ordM_take 14 ?vq14 rfl (by kernel_rfl) (by kernel_rfl) (by kernel_rfl) (by kernel_rfl) (fun _ _ _ h => h) (by rfl) ?hq14 (by assumption) ?rq14
        case hq14 => (intro W hSw; (try dsimp only at hSw); go_simp <;> with_reducible rfl)
        (try simp only [Act.put, List.setIfInBounds_toArray, List.set_cons_zero, List.set_cons_succ])
        refine ordM_done (by kernel_rfl) ?_ _
        refine NoPanic.normal ?_
        clear hS3 hS6
        generalize w3.drew.heap.size = G4 at hT5
        obtain ⟨hbT, hgo, hle9, hpl9, hdr9, hev9⟩ := riPut hP5 hbd HUP.out hcs t1
        have HGO := Lib.hid hgo
        have hFl : (gone.length : Int) + s.ev + s.pl + s.dr ≤ k + 1 := by
          have h1 := hbT.cnt
          rw [hpl9, hdr9, hev9] at h1
          push_cast at h1
          omega
        clear hP5 hgo hY hYd HCUT b7
        go_wp2_with fail
        go_loopw [112] (fun i wz => ∃ (j n' c' : Nat) (f' : Int → Option Bool), j ≤ gone.length ∧ i = .int .i64 j ∧ n' ≤ n + j ∧ OwnE wz G4 30 1 (.slice ea gone.length ec) gone.length (bfTs gone) ∧ RiIn w wz g B gb gm n' c' s9 v9 l9 f' ∧ Hid (RiOv (fun y => y < s.least ∨ y ∈ (gone.map BF.t).take j) f')) (fun i _ => gone.length - (intOf i).toNat)
        case atStart => exact ⟨0, n, c, f, Nat.zero_le _, rfl, by omega, hT5, hJ5, Lib.hid (HV.out.mono (fun y hy => .inl hy))⟩
        case round =>
          obtain ⟨j, n', c', f', hj, rfl, hn', hO, hR, HVj⟩ := hrel
          clear hT5 hJ5
          rename World => wz
          by_cases hjl : j < gone.length
          · have hx := List.getElem?_eq_getElem hjl
            generalize gone[j] = x at hx
            have hxm := List.mem_of_getElem? hx
            obtain ⟨gt, ot, cc, e6, _, _, _, _, hcz⟩ := hO.1.cells (by omega)
            cases e6
            have q0 := (hcz _ _ (bfTs_at hx)).1
            have x0 := HGO.out.lo x.t (List.mem_map.2 ⟨x, hxm, rfl⟩)
            have x1 := HGO.out.hi x.t (List.mem_map.2 ⟨x, hxm, rfl⟩)
            have x2 := hbT.le
            have hfx := HVj.out.no (y := x.t) (fun e => e.elim (fun e => by omega) (nodup_at HGO.out.nd (mapT_at hx)))
            have HV2 := Lib.hid (HVj.out.step (mapT_at hx))
            have hwf := riWf (t := x.t) (by omega) (by omega)
            generalize x.t = t at *
            have hlk := hR.map.eq (x := t) hwf
            rw [hfx] at hlk
            simp only [Option.getD] at hlk
            have i0 : (0 : Int) ≤ (j : Int) := by omega
            have i1 : (j : Int) < (gone.length : Int) := by omega
            clear hcz hx hxm
            go_wp2_with (at_mapUpdate; refine wpList_putU _ rfl _ _ _ rfl gm n' c' f' rfl hR.map ?m0 t true rfl ?m1 rfl ?_)
            case m0 => unfold maxLen; omega
            case m1 => exact hwf
            intro w6 hM6 hg6
            have hR6 := hR.put hM6 hg6
            have hO6 := riMapOwn hO hR.map hg6
            clear hM6 hg6 hR hO hlk
            go_wp2_with fail
            go_roundw
            case rel => exact ⟨j + 1, n' + 1, _, _, by omega, by go_num, by omega, hO6, hR6, HV2⟩
            case measure => simp [intOf]; omega
          · obtain rfl : j = gone.length := by omega
            rw [take_mapT] at HVj
            have HVT : Hid (RiOv (fun y => y < s9.least) f') := Lib.hid (HVj.out.mono (fun y hy => by
              rcases hy with hy | hy
              · omega
              · exact HGO.out.hi y hy))
            have hT := hR
            have hnT : (n' : Int) ≤ s9.pl + s9.dr + s9.ev := by rw [hpl9, hdr9, hev9]; omega
            clear hO HVj hR
            generalize n' = n9 at *
            generalize c' = c9 at *
            generalize f' = f9 at *
            generalize last = last9 at *
            have hl9 : l9.length ≤ 100000 := by have := hbT.cnt; have := hbT.p0; have := hbT.d0; have := hbT.e0; omega
            have HT9 := Lib.hid (bfTimes_any hT.bin hl9)
            have h9le := hbT.le
            go_wp2_with fail
            refine HT9.out.mono ?_
            rintro e w8 ⟨tv, rfl, hT8, hb8⟩
            have hJ8 := hT.later hb8
            clear HT9 hT hb8
            obtain ⟨ta, tc, rfl⟩ := hT8.formG
            generalize wz.heap.size = G8 at hT8
            go_wp2_with fail
            go_loopw [125] (fun i wz => ∃ j : Nat, j ≤ l9.length ∧ i = .int .i64 j ∧ OwnE wz G8 30 1 (.slice ta l9.length tc) l9.length (bfTs l9) ∧ RiIn w wz g B gb gm n9 c9 s9 v9 l9 f9) (fun i _ => l9.length - (intOf i).toNat)
            case atStart => exact ⟨0, Nat.zero_le _, rfl, hT8, hJ8⟩
            case round =>
              obtain ⟨j, hj, rfl, hO, hR⟩ := hrel
              clear hT8 hJ8
              by_cases hjl : j < l9.length
              · have hx := List.getElem?_eq_getElem hjl
                generalize l9[j] = x at hx
                have hxm := List.mem_of_getElem? hx
                obtain ⟨gt, ot, cc, e6, _, _, _, _, hcz⟩ := hO.1.cells (by omega)
                cases e6
                have q0 := (hcz _ _ (bfTs_at hx)).1
                have x0 := hR.bin.up.lo x hxm
                have x1 := hR.bin.up.tb x hxm
                have x2 := hR.bin.up.l0
                have hfx := HVT.out.no (y := x.t) (by omega)
                have hlk := hR.map.eq (x := x.t) (riWf (by omega) x1)
                rw [hfx] at hlk
                simp only [Option.getD] at hlk
                have hwx : IntKind.i64.wrap x.t = x.t := IntWalk.i64_in _ ⟨by omega, by omega⟩
                have hdx : decide (x.t ≤ s9.least - 1) = false := decide_eq_false (by omega)
                have HHR := Lib.hid (bfHor_q hR.bin h9le)
                have i0 : (0 : Int) ≤ (j : Int) := by omega
                have i1 : (j : Int) < (l9.length : Int) := by omega
                clear hcz hx hxm
                go_wp2_with fail
                refine HHR.out.mono ?_
                rintro e w' ⟨rfl, hq⟩
                subst hq
                go_wp2_with fail
                go_roundw
                case rel => exact ⟨j + 1, by omega, by go_num, hO, hR⟩
                case measure => simp [intOf]; omega
              · obtain rfl : j = l9.length := by omega
                go_wp2_with fail
                go_roundw
                case rel => exact ⟨k + 1, nw, last9, n9, c9, s9, v9, l9, f9, by omega, by omega, by go_num, rfl, rfl, hq0, by push_cast; omega, hnT, hbT, hR, HVT⟩
                case measure => simp [intOf]; omega
    · have hend : k = len1 ∨ k = 60 := by omega
      have hbel := hI.bel
      rcases hend with rfl | rfl
      · go_wp2_with fail
        go_ret
        exact ⟨rfl, by rw [HG.out]; exact hbel⟩
      · by_cases h60 : 60 < len1
        · go_wp2_with fail
          go_ret
          exact ⟨rfl, by rw [HG.out]; exact hbel⟩
        · obtain rfl : len1 = 60 := by omega
          go_wp2_with fail
          go_ret
          exact ⟨rfl, by rw [HG.out]; exact hbel⟩
end bufferRises
end Go.Proofs.Ytgomijhckmcfeaa
