/- rtp: Parse. -/
import Derived.Test.YtilobmebfeenfaaRtpH
import Derived.Test.YtilobmebfeenfaaRtpU
import Derived.Deep.DeepCutAuto
namespace Go.Proofs.Ytilobmebfeenfaa
open Go.RowKit
set_option linter.unusedVariables false
/-- A header, and what is left behind it. -/
def hdrR (s : ByteArray) (first : Nat) : PK × (ByteArray × Int) :=
  let a1 := rd (s, 0) 1
  let a2 := rd a1 2
  let a3 := rd a2 4
  let a4 := rd a3 4
  let a5 := rds a4 (first % 16)
  let a6 := rd a5 2
  let a7 := rd a6 2
  let m : Int := 4 * (getN (by_ (rawT a6.1 2)) : Int)
  let p : PK := ⟨decide (getN (by_ (rawT s 1)) / 128 = 1), ((getN (by_ (rawT s 1)) % 128 : Nat) : Int), (getN (by_ (rawT a1.1 2)) : Int), (getN (by_ (rawT a2.1 4)) : Int), (getN (by_ (rawT a3.1 4)) : Int), osF a4 (first % 16), decide (first / 16 % 2 = 1),
    if first / 16 % 2 = 1 then (getN (by_ (rawT a5.1 2)) : Int) else 0, if first / 16 % 2 = 1 then rawT a7.1 m else { data := #[] }, { data := #[] }, 0⟩
  (p, if first / 16 % 2 = 1 then rd a7 m else a5)
/-- What Parse finds: an error, or a packet. -/
def parseR (s : ByteArray) : Sum Int PK :=
  if s.size < 12 then .inl 2 else
  if getN (by_ (rawT s 1)) / 64 ≠ 2 then .inl 1 else
  if (hdrR (rd (s, 0) 1).1 (getN (by_ (rawT s 1)))).2.2 ≠ 0 then .inl (hdrR (rd (s, 0) 1).1 (getN (by_ (rawT s 1)))).2.2 else
  if getN (by_ (rawT s 1)) / 32 % 2 = 1 then
    if (hdrR (rd (s, 0) 1).1 (getN (by_ (rawT s 1)))).2.1.size ≠ 0 ∧ lastN (hdrR (rd (s, 0) 1).1 (getN (by_ (rawT s 1)))).2.1 ≠ 0 ∧ lastN (hdrR (rd (s, 0) 1).1 (getN (by_ (rawT s 1)))).2.1 ≤ (hdrR (rd (s, 0) 1).1 (getN (by_ (rawT s 1)))).2.1.size ∧ by_ ((hdrR (rd (s, 0) 1).1 (getN (by_ (rawT s 1)))).2.1.extract ((hdrR (rd (s, 0) 1).1 (getN (by_ (rawT s 1)))).2.1.size - lastN (hdrR (rd (s, 0) 1).1 (getN (by_ (rawT s 1)))).2.1) (hdrR (rd (s, 0) 1).1 (getN (by_ (rawT s 1)))).2.1.size) = padL (lastN (hdrR (rd (s, 0) 1).1 (getN (by_ (rawT s 1)))).2.1) then
      .inr { (hdrR (rd (s, 0) 1).1 (getN (by_ (rawT s 1)))).1 with data := (hdrR (rd (s, 0) 1).1 (getN (by_ (rawT s 1)))).2.1.extract 0 ((hdrR (rd (s, 0) 1).1 (getN (by_ (rawT s 1)))).2.1.size - lastN (hdrR (rd (s, 0) 1).1 (getN (by_ (rawT s 1)))).2.1), pad := (lastN (hdrR (rd (s, 0) 1).1 (getN (by_ (rawT s 1)))).2.1 : Int) }
    else .inl 1
  else .inr { (hdrR (rd (s, 0) 1).1 (getN (by_ (rawT s 1)))).1 with data := (hdrR (rd (s, 0) 1).1 (getN (by_ (rawT s 1)))).2.1 }
/-- A zero packet. -/
def zeroA : Value := .agg #[.bool false, .int .i64 0, .int .u16 0, .int .u32 0, .int .u32 0, .slice none 0 0, .bool false, .int .i64 0, .string { data := #[] }, .string { data := #[] }, .int .i64 0]
/-- What Parse answers. -/
def Parsed (s : ByteArray) (w : World) (e : Ending) (w' : World) : Prop :=
  Below w.heap.size w w' ∧ ((∃ er : Int, e = .returned (.tuple #[zeroA, .int .i64 er]) ∧ parseR s = .inl er) ∨
    ∃ (p : PK) (a : Option Addr) (c : Nat), e = .returned (.tuple #[.agg (p.cells a c), .int .i64 0]) ∧ parseR s = .inr p ∧ w'.ownsRow w.heap.size 25 1 (.slice a p.others.length c) p.others.length (p.others.map (Value.int .u32)))
theorem padOk_iff (s : ByteArray) : padOk s ↔ (s.size ≠ 0 ∧ lastN s ≠ 0 ∧ lastN s ≤ s.size ∧ by_ (s.extract (s.size - lastN s) s.size) = padL (lastN s)) := by
  unfold padOk
  constructor
  · rintro ⟨h0, h1, h2, h3⟩; exact ⟨h0, h1, h2, by rw [h3, by_ofL]⟩
  · rintro ⟨h0, h1, h2, h3⟩; exact ⟨h0, h1, h2, by rw [← h3, ofL_by]⟩
theorem parseShort_any (s : ByteArray) (w : World) (hs : s.size < 12) : Calls Try.prog 8 #[.string s] w (Parsed s w) := by
  have hR : parseR s = .inl 2 := by unfold parseR; rw [if_pos hs]
  have HR := Lib.hid hR
  clear hR
  go_enter Try.func8, Try.ntmps8
  go_wp2
  exact bodyPost_ret (v := .tuple #[zeroA, .int .i64 2]) (by simp [results, Try.results8, go_sem, zeroA]) rfl ⟨(Below.refl _ _).alloc (Nat.le_refl _) _, .inl ⟨2, rfl, HR.out⟩⟩
theorem inPk_new (W : World) (n : Nat) (hn : n = W.heap.size) : PkIn (W.alloc (.cells #[.bool false, .int .i64 0, .int .u16 0, .int .u32 0, .int .u32 0, .slice none 0 0, .bool false, .int .i64 0, .string { data := #[] }, .string { data := #[] }, .int .i64 0] 30)) n (.bool false) (.int .i64 0) (.int .u16 0) (.int .u32 0) (.int .u32 0) (.slice none 0 0) (.bool false) (.int .i64 0) (.string { data := #[] }) (.string { data := #[] }) (.int .i64 0) := by subst hn; exact heap_alloc_new W _
theorem parseR1 (s : ByteArray) (h0 : ¬ s.size < 12) (h1 : getN (by_ (rawT s 1)) / 64 ≠ 2) : parseR s = .inl 1 := by unfold parseR; rw [if_neg h0, if_pos h1]
theorem parseR2 (s : ByteArray) (h0 : ¬ s.size < 12) (h1 : ¬ getN (by_ (rawT s 1)) / 64 ≠ 2) (h2 : (hdrR (rd (s, 0) 1).1 (getN (by_ (rawT s 1)))).2.2 ≠ 0) : parseR s = .inl (hdrR (rd (s, 0) 1).1 (getN (by_ (rawT s 1)))).2.2 := by unfold parseR; rw [if_neg h0, if_neg h1, if_pos h2]
theorem parseR3 (s : ByteArray) (h0 : ¬ s.size < 12) (h1 : ¬ getN (by_ (rawT s 1)) / 64 ≠ 2) (h2 : ¬ (hdrR (rd (s, 0) 1).1 (getN (by_ (rawT s 1)))).2.2 ≠ 0) (h3 : getN (by_ (rawT s 1)) / 32 % 2 = 1) (h4 : padOk (hdrR (rd (s, 0) 1).1 (getN (by_ (rawT s 1)))).2.1) :
    parseR s = .inr { (hdrR (rd (s, 0) 1).1 (getN (by_ (rawT s 1)))).1 with data := (hdrR (rd (s, 0) 1).1 (getN (by_ (rawT s 1)))).2.1.extract 0 ((hdrR (rd (s, 0) 1).1 (getN (by_ (rawT s 1)))).2.1.size - lastN (hdrR (rd (s, 0) 1).1 (getN (by_ (rawT s 1)))).2.1), pad := (lastN (hdrR (rd (s, 0) 1).1 (getN (by_ (rawT s 1)))).2.1 : Int) } := by
  unfold parseR; rw [if_neg h0, if_neg h1, if_neg h2, if_pos h3, if_pos ((padOk_iff _).1 h4)]
theorem parseR4 (s : ByteArray) (h0 : ¬ s.size < 12) (h1 : ¬ getN (by_ (rawT s 1)) / 64 ≠ 2) (h2 : ¬ (hdrR (rd (s, 0) 1).1 (getN (by_ (rawT s 1)))).2.2 ≠ 0) (h3 : getN (by_ (rawT s 1)) / 32 % 2 = 1) (h4 : ¬ padOk (hdrR (rd (s, 0) 1).1 (getN (by_ (rawT s 1)))).2.1) : parseR s = .inl 1 := by
  unfold parseR; rw [if_neg h0, if_neg h1, if_neg h2, if_pos h3, if_neg (fun h => h4 ((padOk_iff _).2 h))]
theorem parseR5 (s : ByteArray) (h0 : ¬ s.size < 12) (h1 : ¬ getN (by_ (rawT s 1)) / 64 ≠ 2) (h2 : ¬ (hdrR (rd (s, 0) 1).1 (getN (by_ (rawT s 1)))).2.2 ≠ 0) (h3 : ¬ getN (by_ (rawT s 1)) / 32 % 2 = 1) :
    parseR s = .inr { (hdrR (rd (s, 0) 1).1 (getN (by_ (rawT s 1)))).1 with data := (hdrR (rd (s, 0) 1).1 (getN (by_ (rawT s 1)))).2.1 } := by
  unfold parseR; rw [if_neg h0, if_neg h1, if_neg h2, if_neg h3]
theorem readH_hdrR {B b g : Nat} {s : ByteArray} {first : Nat} {w w' : World} {e : Ending} (h : ReadH B b g (getN (by_ (rawT s 1))) (getN (by_ (rawT (rd (s, 0) 1).1 2))) (getN (by_ (rawT (rd (rd (s, 0) 1) 2).1 4))) (getN (by_ (rawT (rd (rd (rd (s, 0) 1) 2) 4).1 4))) (rd (rd (rd (rd (s, 0) 1) 2) 4) 4) (first % 16) (decide (first / 16 % 2 = 1)) w e w') :
    e = .returned (.tuple #[]) ∧ Below B w w' ∧ ∃ (a : Option Addr) (c : Nat), w'.ownsRow B 25 1 (.slice a (hdrR s first).1.others.length c) (hdrR s first).1.others.length ((hdrR s first).1.others.map (Value.int .u32)) ∧
      PkIn w' g (.bool (hdrR s first).1.mrk) (.int .i64 (hdrR s first).1.kind) (.int .u16 (hdrR s first).1.seq) (.int .u32 (hdrR s first).1.time) (.int .u32 (hdrR s first).1.source) (.slice a (hdrR s first).1.others.length c) (.bool (hdrR s first).1.hx) (.int .i64 (hdrR s first).1.prof) (.string (hdrR s first).1.ext) (.string { data := #[] }) (.int .i64 0) ∧
      InAt w' b (hdrR s first).2.1 (hdrR s first).2.2 := by
  obtain ⟨h1, h2, v, prof, ext, sf, hv, hP, hI, hc⟩ := h
  have hol : (hdrR s first).1.others = osF (rd (rd (rd (rd (s, 0) 1) 2) 4) 4) (first % 16) := rfl
  have hlen : (hdrR s first).1.others.length = first % 16 := by rw [hol, osF_len]
  obtain ⟨a, c, rfl⟩ := own_slice hv
  refine ⟨h1, h2, a, c, by rw [hlen, hol]; exact hv, ?_, ?_⟩
  · rw [hlen]
    rcases hc with ⟨hx, rfl, rfl, rfl⟩ | ⟨hx, rfl, rfl, rfl⟩
    · have hx' : ¬ first / 16 % 2 = 1 := of_decide_eq_false hx
      have e1 : (hdrR s first).1.prof = 0 := if_neg hx'
      have e2 : (hdrR s first).1.ext = { data := #[] } := if_neg hx'
      rw [e1, e2]; exact hP
    · have hx' : first / 16 % 2 = 1 := of_decide_eq_true hx
      have e1 : (hdrR s first).1.prof = (getN (by_ (rawT (rds (rd (rd (rd (rd (s, 0) 1) 2) 4) 4) (first % 16)).1 2)) : Int) := if_pos hx'
      have e2 : (hdrR s first).1.ext = rawT (rd (rd (rds (rd (rd (rd (rd (s, 0) 1) 2) 4) 4) (first % 16)) 2) 2).1 (4 * (getN (by_ (rawT (rd (rds (rd (rd (rd (rd (s, 0) 1) 2) 4) 4) (first % 16)) 2).1 2)) : Int)) := if_pos hx'
      rw [e1, e2]; exact hP
  · rcases hc with ⟨hx, rfl, rfl, rfl⟩ | ⟨hx, rfl, rfl, rfl⟩
    · have hx' : ¬ first / 16 % 2 = 1 := of_decide_eq_false hx
      have e1 : (hdrR s first).2 = rds (rd (rd (rd (rd (s, 0) 1) 2) 4) 4) (first % 16) := if_neg hx'
      rw [e1]; exact hI
    · have hx' : first / 16 % 2 = 1 := of_decide_eq_true hx
      have e1 : (hdrR s first).2 = rd (rd (rd (rds (rd (rd (rd (rd (s, 0) 1) 2) 4) 4) (first % 16)) 2) 2) (4 * (getN (by_ (rawT (rd (rds (rd (rd (rd (rd (s, 0) 1) 2) 4) 4) (first % 16)) 2).1 2)) : Int)) := if_pos hx'
      rw [e1]; exact hI
theorem hdrR_le (s : ByteArray) (first : Nat) : (hdrR s first).2.1.size ≤ s.size := by
  have l1 : (rd (s, 0) 1).1.size ≤ s.size := rawS_le _ _ _
  have l2 : (rd (rd (s, 0) 1) 2).1.size ≤ s.size := Nat.le_trans (rawS_le _ _ _) l1
  have l3 : (rd (rd (rd (s, 0) 1) 2) 4).1.size ≤ s.size := Nat.le_trans (rawS_le _ _ _) l2
  have l4 : (rd (rd (rd (rd (s, 0) 1) 2) 4) 4).1.size ≤ s.size := Nat.le_trans (rawS_le _ _ _) l3
  have l5 : (rds (rd (rd (rd (rd (s, 0) 1) 2) 4) 4) (first % 16)).1.size ≤ s.size := Nat.le_trans (rds_le _ _) l4
  have l6 : (rd (rds (rd (rd (rd (rd (s, 0) 1) 2) 4) 4) (first % 16)) 2).1.size ≤ s.size := Nat.le_trans (rawS_le _ _ _) l5
  have l7 : (rd (rd (rds (rd (rd (rd (rd (s, 0) 1) 2) 4) 4) (first % 16)) 2) 2).1.size ≤ s.size := Nat.le_trans (rawS_le _ _ _) l6
  show (ite (first / 16 % 2 = 1) _ _ : ByteArray × Int).1.size ≤ _
  split
  · exact Nat.le_trans (rawS_le _ _ _) l7
  · exact l5
theorem rawT_whole (s : ByteArray) : rawT s (s.size : Int) = s := by
  have hN : rawN (s.size : Int) = s.size := by unfold rawN; omega
  unfold rawT
  rw [hN, if_neg (by omega)]
  simp
theorem own_base {w : World} {B B' : Nat} {e : TypeId} {v : Value} {n : Nat} {xs : List Value} (h : w.ownsRow B e 1 v n xs) (hB : B' ≤ B) : w.ownsRow B' e 1 v n xs := by
  refine ⟨h.1, ?_⟩
  rcases h.2 with h' | ⟨g, cap, cur, hv, hb, r⟩
  · exact .inl h'
  · exact .inr ⟨g, cap, cur, hv, by omega, r⟩
theorem pk_set {W : World} {g b i : Nat} {u c0 c1 c2 c3 c4 c5 c6 c7 c8 c9 c10 : Value} (h : PkIn W g c0 c1 c2 c3 c4 c5 c6 c7 c8 c9 c10) (hne : g ≠ b) : PkIn (W.setCell ⟨b, i, none⟩ u) g c0 c1 c2 c3 c4 c5 c6 c7 c8 c9 c10 := by
  unfold PkIn; rw [Below.heap_setCell _ _ _ _ hne]; exact h
theorem own_later {w w' : World} {B : Nat} {e : TypeId} {v : Value} {n : Nat} {xs : List Value} (h : w.ownsRow B e 1 v n xs) (hb : Below w.heap.size w w') : w'.ownsRow B e 1 v n xs :=
  h.kept (row := none) ⟨hb.os, hb.tape, hb.output, hb.size, fun k hk _ => hb.block k hk⟩ (by cases hv : v.ownBlock <;> simp)
theorem parsedGood {s : ByteArray} {w w' : World} {e : Ending} (P : PK) (a : Option Addr) (c : Nat) (hb : Below w.heap.size w w') (he : e = .returned (.tuple #[.agg (P.cells a c), .int .i64 0])) (hr : Hid (parseR s = .inr P)) (hv : w'.ownsRow w.heap.size 25 1 (.slice a P.others.length c) P.others.length (P.others.map (Value.int .u32))) : Parsed s w e w' := ⟨hb, .inr ⟨P, a, c, he, hr.out, hv⟩⟩
theorem parsedBad {s : ByteArray} {w w' : World} {e : Ending} (er : Int) (hb : Below w.heap.size w w') (he : e = .returned (.tuple #[zeroA, .int .i64 er])) (hr : Hid (parseR s = .inl er)) : Parsed s w e w' := ⟨hb, .inl ⟨er, he, hr.out⟩⟩
set_option maxRecDepth 100000 in
set_option maxHeartbeats 6400000 in
theorem parseLong_any (s : ByteArray) (w : World) (hs : ¬ s.size < 12) (hs2 : s.size ≤ 1099511627776) : Calls Try.prog 8 #[.string s] w (Parsed s w) := by
  have hR0 := PkIn.later (inPk_new w w.heap.size rfl) ((Below.refl _ _).alloc (Nat.le_refl _) (.cells #[.string s, .int .i64 0] 111))
  have hI0 : InAt ((w.alloc (.cells #[.bool false, .int .i64 0, .int .u16 0, .int .u32 0, .int .u32 0, .slice none 0 0, .bool false, .int .i64 0, .string { data := #[] }, .string { data := #[] }, .int .i64 0] 30)).alloc (.cells #[.string s, .int .i64 0] 111)) (w.heap.size + 1) s 0 := by simpa using inAt_new s (w.alloc (.cells #[.bool false, .int .i64 0, .int .u16 0, .int .u32 0, .int .u32 0, .slice none 0 0, .bool false, .int .i64 0, .string { data := #[] }, .string { data := #[] }, .int .i64 0] 30))
  have hb0 : Below w.heap.size w ((w.alloc (.cells #[.bool false, .int .i64 0, .int .u16 0, .int .u32 0, .int .u32 0, .slice none 0 0, .bool false, .int .i64 0, .string { data := #[] }, .string { data := #[] }, .int .i64 0] 30)).alloc (.cells #[.string s, .int .i64 0] 111)) := ((Below.refl _ _).alloc (Nat.le_refl _) _).alloc (by simp) _
  have hne0 : w.heap.size ≠ w.heap.size + 1 := by omega
  have r1 := parseR1 s hs
  have r2 := parseR2 s hs
  have r3 := parseR3 s hs
  have r4 := parseR4 s hs
  have r5 := parseR5 s hs
  have hle : (rd (s, 0) 1).1.size ≤ s.size := rawS_le _ _ _
  have hU := inU8_any _ s 0 _ hI0 (by omega)
  have he1 : (rd (s, 0) 1).2 = 0 := by
    show rawE s 0 1 = 0
    unfold rawE rawN
    rw [if_neg (by omega)]
  change Calls _ _ _ _ (Took _ _ (rd (s, 0) 1).1 (rd (s, 0) 1).2 _) at hU
  rw [he1] at hU
  have hF : getN (by_ (rawT s 1)) ≤ 255 := by
    have h0 := getN_lt (by_ (rawT s 1))
    have h1 : (by_ (rawT s 1)).length ≤ 1 := by rw [by_len]; have := (rawT_size s 1).1; unfold rawN at this; omega
    have h2 : 256 ^ (by_ (rawT s 1)).length ≤ 256 ^ 1 := Nat.pow_le_pow_right (by decide) h1
    omega
  have b1 := i64_not63 _ hF
  have b2 := i64_and32 _ hF
  have HR := Lib.hid (And.intro r1 (And.intro r2 (And.intro r3 (And.intro r4 r5))))
  clear r1 r2 r3 r4 r5 he1
  generalize (rd (s, 0) 1).1 = s1 at hU hle HR
  generalize getN (by_ (rawT s 1)) = F at hU hF b1 b2 HR
  go_enter Try.func8, Try.ntmps8
  go_wp2_with ((go_at_call 25; refine (of_any _ _).mono ?_; rintro e w' ⟨rfl, rfl⟩))
  refine hU.mono ?_
  rintro e w3 ⟨rfl, hI3, ho3⟩
  have hR3 := hR0.only hne0 ho3
  have hb3 := hb0.trans (ho3.below (by omega))
  clear hU hR0 hI0 hb0 ho3
  by_cases k1 : F / 64 ≠ 2
  · have hr := Lib.hid (HR.out.1 k1)
    have hq : (((F / 64 * 64 : Nat) : Int) != 128) = true := by rw [bne_iff_ne]; omega
    clear HR k1
    generalize F / 64 * 64 = q at b1 hq
    obtain ⟨c0, c1, c2, c3, c4, c5, c6, c7, c8, c9, c10⟩ := hR3.cells
    obtain ⟨f0, f1, f2, f3, f4, f5, f6, f7, f8, f9, f10⟩ := hR3.frees
    have hlt := hR3.lt
    go_wp2
    refine bodyPost_ret (v := .tuple #[zeroA, .int .i64 1]) (by simp [results, Try.results8, go_sem, zeroA, c0, c1, c2, c3, c4, c5, c6, c7, c8, c9, c10]) rfl (parsedBad 1 ?_ rfl hr)
    go_grown
  · have hq : (((F / 64 * 64 : Nat) : Int) != 128) = false := by rw [bne_eq_false_iff_eq]; omega
    have hG := inPk_new w3 w3.heap.size rfl
    have hI4 := hI3.later ((Below.refl _ _).alloc (Nat.le_refl _) (.cells #[.bool false, .int .i64 0, .int .u16 0, .int .u32 0, .int .u32 0, .slice none 0 0, .bool false, .int .i64 0, .string { data := #[] }, .string { data := #[] }, .int .i64 0] 30))
    have hR4 := hR3.later ((Below.refl _ _).alloc (Nat.le_refl _) (.cells #[.bool false, .int .i64 0, .int .u16 0, .int .u32 0, .int .u32 0, .slice none 0 0, .bool false, .int .i64 0, .string { data := #[] }, .string { data := #[] }, .int .i64 0] 30))
    have hb4 := hb3.alloc hb3.size (.cells #[.bool false, .int .i64 0, .int .u16 0, .int .u32 0, .int .u32 0, .slice none 0 0, .bool false, .int .i64 0, .string { data := #[] }, .string { data := #[] }, .int .i64 0] 30)
    have hlt3 := hI3.lt
    have HH := readHeader_any (w.heap.size + 1) (w.heap.size + 1) w3.heap.size s1 F _ hF hG hI4 (by omega) (by omega) (by omega) (Nat.le_refl _)
    have HR2 := Lib.hid (HR.out.2.1 k1)
    have HR3 := Lib.hid (HR.out.2.2.1 k1)
    have HR4 := Lib.hid (HR.out.2.2.2.1 k1)
    have HR5 := Lib.hid (HR.out.2.2.2.2 k1)
    have hsl := hdrR_le s1 F
    clear HR hI3 hR3 hb3 hG hI4
    generalize F / 64 * 64 = q at b1 hq
    go_wp2_with fail
    generalize w3.alloc (.cells #[.bool false, .int .i64 0, .int .u16 0, .int .u32 0, .int .u32 0, .slice none 0 0, .bool false, .int .i64 0, .string { data := #[] }, .string { data := #[] }, .int .i64 0] 30) = w4 at HH hR4 hb4 ⊢
    generalize w3.heap.size = g at HH hlt3 ⊢
    refine HH.mono ?_
    intro e w5 h5
    obtain ⟨rfl, hb5, a, c, hv5, hG5, hI5⟩ := readH_hdrR h5
    have hR5 : PkIn w5 w.heap.size (.bool false) (.int .i64 0) (.int .u16 0) (.int .u32 0) (.int .u32 0) (.slice none 0 0) (.bool false) (.int .i64 0) (.string { data := #[] }) (.string { data := #[] }) (.int .i64 0) := by unfold PkIn; rw [hb5.block _ (by omega)]; exact hR4
    have hb6 : Below w.heap.size w w5 := hb4.trans (hb5.mono (by omega))
    clear HH h5 hb5 hR4 hb4
    have hpd0 : Hid ((hdrR s1 F).1.pad = 0) := rfl
    generalize (hdrR s1 F).1 = P at hv5 hG5 HR3 HR5 hpd0
    generalize (hdrR s1 F).2 = sf at hI5 HR2 HR3 HR4 HR5 hsl
    by_cases k2 : sf.2 ≠ 0
    · have hr := Lib.hid (HR2.out k2)
      have k2' : (sf.2 != 0) = true := by simpa using k2
      clear HR2 HR3 HR4 HR5 k2
      have HE := err_any _ _ _ _ hI5
      obtain ⟨c0, c1, c2, c3, c4, c5, c6, c7, c8, c9, c10⟩ := hR5.cells
      obtain ⟨f0, f1, f2, f3, f4, f5, f6, f7, f8, f9, f10⟩ := hR5.frees
      generalize sf.2 = er at hr k2' HE
      go_wp2_with ((go_at_call 28; refine (HE).mono ?_; rintro e w' ⟨rfl, rfl⟩))
      refine bodyPost_ret (v := .tuple #[zeroA, .int .i64 er]) (by simp [results, Try.results8, go_sem, zeroA, c0, c1, c2, c3, c4, c5, c6, c7, c8, c9, c10]) rfl (parsedBad er ?_ rfl hr)
      go_grown
    · have k2' : sf.2 = 0 := by omega
      have HE := err_any _ _ _ _ hI5
      have HL := left_any _ _ _ _ hI5
      have HW := inRaw_any _ _ _ (sf.1.size : Int) _ hI5 (by omega)
      rw [rawT_whole] at HW
      rw [k2'] at HE
      have HR3' := Lib.hid (HR3.out k2)
      have HR4' := Lib.hid (HR4.out k2)
      have HR5' := Lib.hid (HR5.out k2)
      clear HR2 HR3 HR4 HR5 k2 k2'
      generalize rawS sf.1 sf.2 (sf.1.size : Int) = sx at HW
      generalize rawE sf.1 sf.2 (sf.1.size : Int) = ex at HW
      generalize sf.1 = D at hI5 hsl HL HW HR3' HR4' HR5'
      go_wp2_with (first | (go_at_call 28; refine (HE).mono ?_; rintro e w' ⟨rfl, rfl⟩) | (go_at_call 30; refine (HL).mono ?_; rintro e w' ⟨rfl, rfl⟩))
      refine HW.mono ?_
      rintro e w6 ⟨rfl, hI6, ho6⟩
      have hgb : g ≠ w.heap.size + 1 := by omega
      have hG6 := hG5.only hgb ho6
      have hR6 := hR5.only (by omega) ho6
      have hv6 := own_only hv5 hI5 (in_ne _ _ _) ho6
      have hb7 := hb6.trans (ho6.below (by omega))
      clear HE HL HW hG5 hR5 hv5 hI5 hb6 ho6
      obtain ⟨c0, c1, c2, c3, c4, c5, c6, c7, c8, c9, c10⟩ := hG6.cells
      obtain ⟨f0, f1, f2, f3, f4, f5, f6, f7, f8, f9, f10⟩ := hG6.frees
      have hG7 : PkIn (w6.setCell ⟨g, 9, none⟩ (.string D)) g (.bool P.mrk) (.int .i64 P.kind) (.int .u16 P.seq) (.int .u32 P.time) (.int .u32 P.source) (.slice a P.others.length c) (.bool P.hx) (.int .i64 P.prof) (.string P.ext) (.string D) (.int .i64 0) := block_setCell hG6
      have hR7 := pk_set (i := 9) (u := .string D) hR6 (show w.heap.size ≠ g by omega)
      have hv7 := own_set (i := 9) (u := .string D) hv6 hG6
      have hb8 := hb7.setCell (p := ⟨g, 9, none⟩) (by show w.heap.size ≤ g; omega) (.string D)
      have hgw : w.heap.size ≠ g := by omega
      have hgw2 : w.heap.size ≤ g := by omega
      have hq2 : (((F / 32 % 2 * 32 : Nat) : Int) != 0) = decide (F / 32 % 2 = 1) := by
        rw [Bool.eq_iff_iff, bne_iff_ne, decide_eq_true_eq]; omega
      generalize F / 32 % 2 * 32 = q2 at b2 hq2
      go_upto_region 13 with fail
      generalize w6.setCell ⟨g, 9, none⟩ (.string D) = w7 at hG7 hR7 hv7 hb8 ⊢
      clear hG6 hR6 hv6 hb7 hI6 c0 c1 c2 c3 c4 c5 c6 c7 c8 c9 c10 f0 f1 f2 f3 f4 f5 f6 f7 f8 f9 f10
      obtain ⟨c0, c1, c2, c3, c4, c5, c6, c7, c8, c9, c10⟩ := hG7.cells
      obtain ⟨f0, f1, f2, f3, f4, f5, f6, f7, f8, f9, f10⟩ := hG7.frees
      have hdl : D.size ≤ 9223372036854775807 := by omega
      by_cases k3 : F / 32 % 2 = 1
      · rw [decide_eq_true k3] at hq2
        by_cases k4 : padOk D
        · have hr := Lib.hid (HR3'.out k3 k4)
          have hU := unpadGood_any D w7 hdl k4
          clear HR3' HR4' HR5' k4 k3
          generalize D.extract 0 (D.size - lastN D) = D2 at hU hr
          generalize lastN D = pn at hU hr
          go_wp2_with fail
          refine hU.mono ?_
          rintro e w8 ⟨rfl, hb9⟩
          have hG8 := hG7.later hb9
          have hR8 := hR7.later hb9
          have hv8 := own_later hv7 hb9
          have hb10 := hb8.trans (hb9.mono hb8.size)
          clear hU hG7 hR7 hv7 hb8 hb9 c0 c1 c2 c3 c4 c5 c6 c7 c8 c9 c10 f0 f1 f2 f3 f4 f5 f6 f7 f8 f9 f10
          obtain ⟨c0, c1, c2, c3, c4, c5, c6, c7, c8, c9, c10⟩ := hG8.cells
          obtain ⟨f0, f1, f2, f3, f4, f5, f6, f7, f8, f9, f10⟩ := hG8.frees
          have hG9 : PkIn ((w8.setCell ⟨g, 9, none⟩ (.string D2)).setCell ⟨g, 10, none⟩ (.int .i64 (pn : Int))) g (.bool P.mrk) (.int .i64 P.kind) (.int .u16 P.seq) (.int .u32 P.time) (.int .u32 P.source) (.slice a P.others.length c) (.bool P.hx) (.int .i64 P.prof) (.string P.ext) (.string D2) (.int .i64 (pn : Int)) := block_setCell (block_setCell hG8)
          have hR9 := pk_set (i := 10) (u := .int .i64 (pn : Int)) (pk_set (i := 9) (u := .string D2) hR8 hgw) hgw
          have hG8b : PkIn (w8.setCell ⟨g, 9, none⟩ (.string D2)) g (.bool P.mrk) (.int .i64 P.kind) (.int .u16 P.seq) (.int .u32 P.time) (.int .u32 P.source) (.slice a P.others.length c) (.bool P.hx) (.int .i64 P.prof) (.string P.ext) (.string D2) (.int .i64 0) := block_setCell hG8
          have hv9 := own_set (i := 10) (u := .int .i64 (pn : Int)) (own_set (i := 9) (u := .string D2) hv8 hG8) hG8b
          have hb11 := (hb10.setCell (p := ⟨g, 9, none⟩) hgw2 (.string D2)).setCell (p := ⟨g, 10, none⟩) hgw2 (.int .i64 (pn : Int))
          go_upto_region 15 with fail
          generalize (w8.setCell ⟨g, 9, none⟩ (.string D2)).setCell ⟨g, 10, none⟩ (.int .i64 (pn : Int)) = w9 at hG9 hR9 hv9 hb11 ⊢
          clear hG8 hR8 hv8 hb10 hG8b c0 c1 c2 c3 c4 c5 c6 c7 c8 c9 c10 f0 f1 f2 f3 f4 f5 f6 f7 f8 f9 f10
          obtain ⟨c0, c1, c2, c3, c4, c5, c6, c7, c8, c9, c10⟩ := hG9.cells
          obtain ⟨d0, d1, d2, d3, d4, d5, d6, d7, d8, d9, d10⟩ := hR9.cells
          obtain ⟨f0, f1, f2, f3, f4, f5, f6, f7, f8, f9, f10⟩ := hR9.frees
          go_wp2
          refine bodyPost_ret (v := .tuple #[.agg ({ P with data := D2, pad := (pn : Int) }.cells a c), .int .i64 0]) (by simp [results, Try.results8, go_sem, PK.cells, d0, d1, d2, d3, d4, d5, d6, d7, d8, d9, d10]) rfl (parsedGood { P with data := D2, pad := (pn : Int) } a c ?_ rfl hr ?_)
          · go_grown
          · exact own_base (own_only hv9 hR9 (pk_ne _) ((((((((((((Only.refl _ _).setCell 0 _).setCell 1 _).setCell 2 _).setCell 3 _).setCell 4 _).setCell 5 _).setCell 6 _).setCell 7 _).setCell 8 _).setCell 9 _).setCell 10 _)) (by omega)
        · have hr := Lib.hid (HR4'.out k3 k4)
          have hU := unpadBad_any D w7 hdl k4
          clear HR3' HR4' HR5' k4 k3
          go_wp2_with fail
          refine hU.mono ?_
          rintro e w8 ⟨rfl, hb9⟩
          have hG8 := hG7.later hb9
          have hR8 := hR7.later hb9
          have hb10 := hb8.trans (hb9.mono hb8.size)
          clear hU hG7 hR7 hv7 hb8 hb9 c0 c1 c2 c3 c4 c5 c6 c7 c8 c9 c10 f0 f1 f2 f3 f4 f5 f6 f7 f8 f9 f10
          obtain ⟨c0, c1, c2, c3, c4, c5, c6, c7, c8, c9, c10⟩ := hG8.cells
          obtain ⟨f0, f1, f2, f3, f4, f5, f6, f7, f8, f9, f10⟩ := hG8.frees
          have hR9 := pk_set (i := 10) (u := .int .i64 0) (pk_set (i := 9) (u := .string { data := #[] }) hR8 hgw) hgw
          have hb11 := (hb10.setCell (p := ⟨g, 9, none⟩) hgw2 (.string { data := #[] })).setCell (p := ⟨g, 10, none⟩) hgw2 (.int .i64 0)
          go_upto_region 15 with fail
          generalize (w8.setCell ⟨g, 9, none⟩ (.string { data := #[] })).setCell ⟨g, 10, none⟩ (.int .i64 0) = w9 at hR9 hb11 ⊢
          clear hG8 hR8 hb10 c0 c1 c2 c3 c4 c5 c6 c7 c8 c9 c10 f0 f1 f2 f3 f4 f5 f6 f7 f8 f9 f10
          obtain ⟨c0, c1, c2, c3, c4, c5, c6, c7, c8, c9, c10⟩ := hR9.cells
          obtain ⟨f0, f1, f2, f3, f4, f5, f6, f7, f8, f9, f10⟩ := hR9.frees
          go_wp2
          refine bodyPost_ret (v := .tuple #[zeroA, .int .i64 1]) (by simp [results, Try.results8, go_sem, zeroA, c0, c1, c2, c3, c4, c5, c6, c7, c8, c9, c10]) rfl (parsedBad 1 ?_ rfl hr)
          go_grown
      · rw [decide_eq_false k3] at hq2
        have hr := Lib.hid (HR5'.out k3)
        clear HR3' HR4' HR5' k3
        obtain ⟨d0, d1, d2, d3, d4, d5, d6, d7, d8, d9, d10⟩ := hR7.cells
        obtain ⟨f0, f1, f2, f3, f4, f5, f6, f7, f8, f9, f10⟩ := hR7.frees
        have hpd : P.pad = 0 := hpd0.out
        have hr2 : Hid (parseR s = .inr { P with data := D }) := hr
        go_wp2
        refine bodyPost_ret (v := .tuple #[.agg ({ P with data := D }.cells a c), .int .i64 0]) (by simp [results, Try.results8, go_sem, PK.cells, d0, d1, d2, d3, d4, d5, d6, d7, d8, d9, d10, hpd]) rfl (parsedGood { P with data := D } a c ?_ rfl hr2 ?_)
        · go_grown
        · exact own_base (own_only hv7 hR7 (pk_ne _) ((((((((((((Only.refl _ _).setCell 0 _).setCell 1 _).setCell 2 _).setCell 3 _).setCell 4 _).setCell 5 _).setCell 6 _).setCell 7 _).setCell 8 _).setCell 9 _).setCell 10 _)) (by omega)
end Go.Proofs.Ytilobmebfeenfaa
