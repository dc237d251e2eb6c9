/- rtp: padding, the header's bytes, Pack. -/
import Derived.Test.YtilobmebfeenfaaRtpC
import Derived.Test.YtilobmebfeenfaaShelf
import Derived.Deep.RegionHeld3
namespace Go.Proofs.Ytilobmebfeenfaa
open Go.RowKit
set_option linter.unusedVariables false
theorem bitIf_any (b : Bool) (n : Int) (w : World) : Calls Try.prog 57 #[.bool b, .int .i64 n] w fun e w' => e = .returned (.int .i64 (if b then n else 0)) ∧ w = w' := by
  cases b
  · go_enter Try.func57, Try.ntmps57
    go_wp2
    go_ret
    exact ⟨rfl, rfl⟩
  · go_enter Try.func57, Try.ntmps57
    go_wp2
    go_ret
    exact ⟨rfl, rfl⟩
theorem repeatL_zero : ∀ n : Nat, Lib.repeatL [(0 : UInt8)] n = List.replicate n 0
  | 0 => rfl
  | n + 1 => by rw [Lib.repeatL, repeatL_zero n]; rfl
theorem repeat_at (S : Int) (c : Nat) (w : World) (hS : S = (c : Int)) (hc : c ≤ 1000) :
    Calls Try.prog 62 #[.string { data := #[0] }, .int .i64 S] w fun e w' => e = .returned (.string (ofL (List.replicate c 0))) ∧ Below w.heap.size w w' := by
  have hz : (ByteArray.mk #[0]).size = 1 := rfl
  have h := Try.strings_Repeat { data := #[0] } c w (by omega) (by rw [hz]; omega)
  have e : Lib.repeatL (ByteArray.mk #[0]).data.toList c = List.replicate c 0 := repeatL_zero c
  rw [e] at h
  rw [hS]
  exact h
/-- The last bytes of a packet that is padded. -/
def padL (n : Nat) : List UInt8 := List.replicate (n - 1) 0 ++ [UInt8.ofNat n]
theorem conv_byte (x : Int) (W : World) (g : Nat) (h : W.cell? ⟨g, 0, none⟩ = some (.int .u8 x)) : Sem.run Try.prog (convert 84 9 (.slice (some ⟨g, 0, none⟩) 1 1)) W = Result.ok (.string (strOfNums [x])) W := by
  refine run_convert_bytes_arg (P := Try.prog) _ 84 5 Try.underlying84 Try.underlying5 g 0 1 1 [x] rfl (fun i hi => ?_) 9 Try.underlying9
  match i, hi with
  | 0, _ => exact h
set_option maxHeartbeats 800000 in
theorem padding_any (n : Nat) (w : World) (h1 : 1 ≤ n) (h2 : n ≤ 255) : Calls Try.prog 35 #[.int .i64 (n : Int)] w fun e w' => e = .returned (.string (ofL (padL n))) ∧ Below w.heap.size w w' := by
  have hR : ∀ W : World, _ := fun W => repeat_at ((n : Int) - 1) (n - 1) W (by omega) (by omega)
  have hconv := conv_byte (n : Int)
  have HR := Lib.hid hR
  have hq : ofL (List.replicate (n - 1) 0) ++ strOfNums [(n : Int)] = ofL (padL n) := by
    apply by_inj
    rw [by_append, by_ofL, by_ofL, by_nums]
    simp [padL]
  have hs1 : (ofL (List.replicate (n - 1) 0)).size ≤ 255 := by rw [ofL_size, List.length_replicate]; omega
  have hs2 : (strOfNums [(n : Int)]).size ≤ 1 := by rw [strOfNums_size]; simp
  clear hR
  generalize ofL (List.replicate (n - 1) 0) = A at HR hq hs1
  generalize strOfNums [(n : Int)] = B at hconv hq hs2
  have hadd : ∀ W : World, Sem.run Try.prog (Op.stringOp .add A B) W = Result.ok (.string (ofL (padL n))) W := fun W => by rw [← hq]; exact run_string_add_sum _ _ _ (by omega)
  clear hq
  have hr : ∀ (W w' : World), Below w.heap.size w W → Below W.heap.size W w' → Below w.heap.size w w' := fun W w' a b => a.trans (b.mono a.size)
  have Hr := Lib.hid hr
  have w1 : IntKind.i64.wrap ((n : Int) - 1) = (n : Int) - 1 := IntWalk.i64_in _ ⟨by omega, by omega⟩
  have w2 : IntKind.u8.wrap (n : Int) = (n : Int) := by simp [IntKind.wrap, IntKind.bits, IntKind.signed]; omega
  clear hr
  go_enter Try.func35, Try.ntmps35
  go_wp2_with fail
  go_region_with ((go_at_call 62; refine (HR.out _).mono ?_; rintro e w' ⟨rfl, hb⟩; obtain ⟨hc, hf⟩ := bcell hb))
  all_goals
    go_wp2
    go_ret
    refine ⟨rfl, ?_⟩
    first
      | exact ((Below.refl w.heap.size w).drew.trans hb).alloc (by have := hb.size; simpa using this) _
      | exact ((Below.refl w.heap.size w).drew.alloc (Nat.le_refl _) _).trans (hb.mono (by simp))
      | exact ((Below.refl w.heap.size w).alloc (Nat.le_refl _) _).drew.trans (hb.mono (by simp))
/-- The bytes of a header of a packet that is padded, or isn't. -/
def hdrL (p : PK) (pd : Bool) : List UInt8 :=
  be (128 + p.others.length + (if pd then 32 else 0) + (if p.hx then 16 else 0)) 1 ++ be (p.kind + (if p.mrk then 128 else 0)) 1 ++ be p.seq 2 ++ be p.time 4 ++ be p.source 4 ++ bes p.others 4 ++
  (if p.hx then be p.prof 2 ++ be ((p.ext.size / 4 : Nat) : Int) 2 ++ by_ p.ext else [])
/-- The bytes of a packet. -/
def packL (p : PK) : List UInt8 := hdrL p (decide (0 < p.pad)) ++ by_ p.data ++ (if 0 < p.pad then padL p.pad.toNat else [])
/-- The packet's numbers are of their kinds. -/
def PK.ok (p : PK) : Prop := (0 ≤ p.seq ∧ p.seq ≤ 65535) ∧ (0 ≤ p.time ∧ p.time ≤ 4294967295) ∧ (0 ≤ p.source ∧ p.source ≤ 4294967295) ∧ ∀ x ∈ p.others, 0 ≤ x ∧ x ≤ 4294967295
theorem u8_g (B b : Nat) (v : Value) (L : List UInt8) (zs : List Int) (cs : Array Value) (n g : Nat) (W0 W : World) (hO : OutAt W0 B b v L) (hb : Below W0.heap.size W0 W) (hblk : W.heap[g]? = some (.cells cs 3 (0, 0))) (hg : g ≠ b) (hcs : cs.toList = zs.map (Value.int .i64)) (hn : n = zs.length) (hL : L.length + zs.length * 1 ≤ 1099511627776) (hl : zs.length ≤ 1099511627776) :
    Calls Try.prog 58 #[.pointer (some ⟨b, 0, none⟩), .slice (some ⟨g, 0, none⟩) n n] W (Wrote B b (L ++ bes zs 1) W) :=
  u8_any B b v L zs _ n n _ (hO.later hb) hn (fun w' _ ho => lit_reads hblk hcs hg (by decide) w' ho) hl hL
theorem u16_g (B b : Nat) (v : Value) (L : List UInt8) (zs : List Int) (cs : Array Value) (n g : Nat) (W0 W : World) (hO : OutAt W0 B b v L) (hb : Below W0.heap.size W0 W) (hblk : W.heap[g]? = some (.cells cs 3 (0, 0))) (hg : g ≠ b) (hcs : cs.toList = zs.map (Value.int .i64)) (hn : n = zs.length) (hL : L.length + zs.length * 2 ≤ 1099511627776) (hl : zs.length ≤ 1099511627776) :
    Calls Try.prog 59 #[.pointer (some ⟨b, 0, none⟩), .slice (some ⟨g, 0, none⟩) n n] W (Wrote B b (L ++ bes zs 2) W) :=
  u16_any B b v L zs _ n n _ (hO.later hb) hn (fun w' _ ho => lit_reads hblk hcs hg (by decide) w' ho) hl hL
theorem u32_g (B b : Nat) (v : Value) (L : List UInt8) (zs : List Int) (cs : Array Value) (n g : Nat) (W0 W : World) (hO : OutAt W0 B b v L) (hb : Below W0.heap.size W0 W) (hblk : W.heap[g]? = some (.cells cs 25 (0, 0))) (hg : g ≠ b) (hcs : cs.toList = zs.map (Value.int .u32)) (hn : n = zs.length) (hL : L.length + zs.length * 4 ≤ 1099511627776) (hl : zs.length ≤ 1099511627776) :
    Calls Try.prog 60 #[.pointer (some ⟨b, 0, none⟩), .slice (some ⟨g, 0, none⟩) n n] W (Wrote B b (L ++ bes zs 4) W) :=
  u32_any B b v L zs _ n n _ (hO.later hb) hn (fun w' _ ho => lit_reads hblk hcs hg (by decide) w' ho) hl hL
theorem outRaw_g (B b : Nat) (v : Value) (L : List UInt8) (zs : List ByteArray) (cs : Array Value) (n g : Nat) (W0 W : World) (hO : OutAt W0 B b v L) (hb : Below W0.heap.size W0 W) (hblk : W.heap[g]? = some (.cells cs 9 (0, 0))) (hg : g ≠ b) (hcs : cs.toList = zs.map Value.string) (hn : n = zs.length) (hL : L.length + (cat zs).length ≤ 1099511627776) (hl : zs.length ≤ 1099511627776) :
    Calls Try.prog 34 #[.pointer (some ⟨b, 0, none⟩), .slice (some ⟨g, 0, none⟩) n n] W (Wrote B b (L ++ cat zs) W) :=
  outRaw_any B b v L zs _ n n _ (hO.later hb) hn (fun w' _ ho => lit_readsT hblk hcs hg (by decide) w' ho) hl hL
theorem heap_at_new (W : World) (o : Obj) (g : Nat) (hg : g = W.heap.size) : (W.alloc o).heap[g]? = some o := by subst hg; exact heap_alloc_new W o
theorem heap_at_old (W : World) (o o' : Obj) (g : Nat) (h : W.heap[g]? = some o') : (W.alloc o).heap[g]? = some o' := by
  rw [Below.heap_alloc _ _ _ (lt_of_block h)]; exact h
/-- A header in memory. -/
def HdrAt (W : World) (g : Nat) (hc : Array Value) : Prop := W.heap[g]? = some (.cells hc 28 (0, 0))
theorem HdrAt.drew {W : World} {g : Nat} {hc : Array Value} (h : HdrAt W g hc) : HdrAt W.drew g hc := h
theorem HdrAt.alloc {W : World} {g : Nat} {hc : Array Value} (h : HdrAt W g hc) (o : Obj) : HdrAt (W.alloc o) g hc := heap_at_old _ _ _ _ h
theorem HdrAt.others {W w' : World} {g b : Nat} {hc : Array Value} (h : HdrAt W g hc) (hg : g ≠ b) (ho : Others b W w') : HdrAt w' g hc := ho g _ h hg (by intro cur p e; cases e)
theorem heap_drewN (W : World) (n k : Nat) : (W.drewN n).heap[k]? = W.heap[k]? := (below_drewN (Below.refl (k + 1) W) n).block k (by omega)
theorem HdrAt.drewN {W : World} {g : Nat} {hc : Array Value} (h : HdrAt W g hc) (n : Nat) : HdrAt (W.drewN n) g hc := by unfold HdrAt; rw [heap_drewN]; exact h
theorem Others.drewN {b : Nat} {w w' : World} (h : Others b w w') (n : Nat) : Others b w (w'.drewN n) := fun k o hk hb hn => by rw [heap_drewN]; exact h k o hk hb hn
theorem hdr_S {W : World} {g : Nat} {c0 c1 c2 c3 c4 c5 c6 c7 c8 : Value} (h : HdrAt W g #[c0, c1, c2, c3, c4, c5, c6, c7, c8]) :
    W.cell? ⟨g, 0, none⟩ = some c0 ∧ W.cell? ⟨g, 1, none⟩ = some c1 ∧ W.cell? ⟨g, 2, none⟩ = some c2 ∧ W.cell? ⟨g, 3, none⟩ = some c3 ∧ W.cell? ⟨g, 4, none⟩ = some c4 ∧ W.cell? ⟨g, 5, none⟩ = some c5 ∧ W.cell? ⟨g, 6, none⟩ = some c6 ∧ W.cell? ⟨g, 7, none⟩ = some c7 ∧ W.cell? ⟨g, 8, none⟩ = some c8 ∧ HdrAt W g #[c0, c1, c2, c3, c4, c5, c6, c7, c8] := by
  have hh : W.heap[g]? = some (.cells #[c0, c1, c2, c3, c4, c5, c6, c7, c8] 28 (0, 0)) := h
  have f := fun i => cell_of_row W g i _ _ (0, 0) hh
  exact ⟨by simpa using f 0, by simpa using f 1, by simpa using f 2, by simpa using f 3, by simpa using f 4, by simpa using f 5, by simpa using f 6, by simpa using f 7, by simpa using f 8, h⟩
/-- What writing a header leaves. -/
def WroteH (B b : Nat) (L : List UInt8) (w : World) (e : Ending) (w' : World) : Prop := e = .returned (.tuple #[]) ∧ ∃ v', OutAt w' B b v' L ∧ Below B w w' ∧ Others b w w'
set_option maxRecDepth 100000 in
set_option maxHeartbeats 6400000 in
theorem writeHeader_any (p : PK) (pd : Bool) (a : Option Addr) (c : Nat) (B b : Nat) (v : Value) (w : World) (hp : hdrOk p) (hk : p.ok) (hO : OutAt w B b v []) (hr : ∀ w', Below B w w' → Others b w w' → Reads .u32 w' a p.others) :
    Calls Try.prog 33 #[.agg (p.hcells a c), .pointer (some ⟨b, 0, none⟩), .bool pd] w (WroteH B b (hdrL p pd) w) := by
  obtain ⟨hk1, hk2, hl, hf, ht⟩ := hp
  obtain ⟨⟨s1, s2⟩, ⟨t1, t2⟩, ⟨q1, q2⟩, _⟩ := hk
  obtain ⟨mrk, kind, seq, time, source, others, hx, prof, ext, data, pad⟩ := p
  simp only [PK.hcells, hdrL] at *
  have hbB := hO.2.1
  have hlt := hO.lt
  have g1 : w.heap.size ≠ b := by omega
  have hO1 := hO.alloc (.cells #[.bool mrk, .int .i64 kind, .int .u16 seq, .int .u32 time, .int .u32 source, .slice a others.length c, .bool hx, .int .i64 prof, .string ext] 28)
  have hb1 : Below B w (w.alloc (.cells #[.bool mrk, .int .i64 kind, .int .u16 seq, .int .u32 time, .int .u32 source, .slice a others.length c, .bool hx, .int .i64 prof, .string ext] 28)) := (Below.refl _ _).alloc (by omega) _
  have ho1 : Others b w (w.alloc (.cells #[.bool mrk, .int .i64 kind, .int .u16 seq, .int .u32 time, .int .u32 source, .slice a others.length c, .bool hx, .int .i64 prof, .string ext] 28)) := (Others.refl _ _).alloc _
  have hh1 : HdrAt (w.alloc (.cells #[.bool mrk, .int .i64 kind, .int .u16 seq, .int .u32 time, .int .u32 source, .slice a others.length c, .bool hx, .int .i64 prof, .string ext] 28)) w.heap.size #[.bool mrk, .int .i64 kind, .int .u16 seq, .int .u32 time, .int .u32 source, .slice a others.length c, .bool hx, .int .i64 prof, .string ext] := heap_alloc_new _ _
  have x32 : ∃ x : Int, (if pd then 32 else 0) = x ∧ 0 ≤ x ∧ x ≤ 32 := by cases pd <;> exact ⟨_, rfl, by decide, by decide⟩
  have x16 : ∃ x : Int, (if hx then 16 else 0) = x ∧ 0 ≤ x ∧ x ≤ 16 := by cases hx <;> exact ⟨_, rfl, by decide, by decide⟩
  have x128 : ∃ x : Int, (if mrk then 128 else 0) = x ∧ 0 ≤ x ∧ x ≤ 128 := by cases mrk <;> exact ⟨_, rfl, by decide, by decide⟩
  obtain ⟨x32, e32, l32, u32⟩ := x32
  obtain ⟨x16, e16, l16, u16⟩ := x16
  obtain ⟨x128, e128, l128, u128⟩ := x128
  have h32 : ∀ W : World, Calls Try.prog 57 #[.bool pd, .int .i64 32] W fun e w' => e = .returned (.int .i64 x32) ∧ w' = W := fun W => by have h := bitIf_any pd 32 W; rw [e32] at h; exact h.mono fun e w' ⟨h1, h2⟩ => ⟨h1, h2.symm⟩
  have h16 : ∀ W : World, Calls Try.prog 57 #[.bool hx, .int .i64 16] W fun e w' => e = .returned (.int .i64 x16) ∧ w' = W := fun W => by have h := bitIf_any hx 16 W; rw [e16] at h; exact h.mono fun e w' ⟨h1, h2⟩ => ⟨h1, h2.symm⟩
  have h128 : ∀ W : World, Calls Try.prog 57 #[.bool mrk, .int .i64 128] W fun e w' => e = .returned (.int .i64 x128) ∧ w' = W := fun W => by have h := bitIf_any mrk 128 W; rw [e128] at h; exact h.mono fun e w' ⟨h1, h2⟩ => ⟨h1, h2.symm⟩
  have H32 := Lib.hid h32
  have H16 := Lib.hid h16
  have H128 := Lib.hid h128
  rw [e32, e16, e128]
  generalize hLh : (be (128 + (others.length : Int) + x32 + x16) 1 ++ be (kind + x128) 1 ++ be seq 2 ++ be time 4 ++ be source 4 ++ bes others 4 ++ (if hx then be prof 2 ++ be ((ext.size / 4 : Nat) : Int) 2 ++ by_ ext else [])) = Lh
  have HLh := Lib.hid hLh
  clear hLh
  have s0 : IntKind.i64.wrap (128 + (others.length : Int)) = 128 + (others.length : Int) := IntWalk.i64_in _ ⟨by omega, by omega⟩
  have s1' : IntKind.i64.wrap (128 + (others.length : Int) + x32) = 128 + (others.length : Int) + x32 := IntWalk.i64_in _ ⟨by omega, by omega⟩
  have s2' : IntKind.i64.wrap (128 + (others.length : Int) + x32 + x16) = 128 + (others.length : Int) + x32 + x16 := IntWalk.i64_in _ ⟨by omega, by omega⟩
  have s3' : IntKind.i64.wrap (kind + x128) = kind + x128 := IntWalk.i64_in _ ⟨by omega, by omega⟩
  obtain ⟨c0, c1, c2, c3, c4, c5, c6, c7, c8, _⟩ := hdr_S hh1
  clear h32 h16 h128 e32 e16 e128
  go_enter Try.func33, Try.ntmps33
  go_wp2_with fail
  generalize w.alloc (.cells #[.bool mrk, .int .i64 kind, .int .u16 seq, .int .u32 time, .int .u32 source, .slice a others.length c, .bool hx, .int .i64 prof, .string ext] 28) = w1 at hO1 hb1 ho1 hh1 c0 c1 c2 c3 c4 c5 c6 c7 c8 ⊢
  generalize w.heap.size = g at g1 hh1 c0 c1 c2 c3 c4 c5 c6 c7 c8 ⊢
  go_quiet (first | (go_at_call 57; exact Calls.quiet_of_same (H32.out _)) | (go_at_call 57; exact Calls.quiet_of_same (H16.out _)))
  have hO2 := hO1.drewN nq
  have hb2 := below_drewN hb1 nq
  have ho2 := ho1.drewN nq
  have hh2 := hh1.drewN nq
  clear hO1 hb1 ho1 hh1 c0 c1 c2 c3 c4 c5 c6 c7 c8
  generalize w1.drewN nq = w2 at hO2 hb2 ho2 hh2 ⊢
  obtain ⟨c0, c1, c2, c3, c4, c5, c6, c7, c8, _⟩ := hdr_S hh2
  generalize hFF : 128 + (others.length : Int) + x32 + x16 = F at s1' s2' ⊢
  generalize hSS : kind + x128 = S at s3' ⊢
  have HFF := Lib.hid hFF
  have HSS := Lib.hid hSS
  have hgg : g < w2.heap.size := lt_of_block hh2
  clear hFF s0 s1' s2'
  go_wp2_with fail
  go_region_held3 (fun W => W.cell? ⟨g, 0, none⟩ = some (.bool mrk) ∧ W.cell? ⟨g, 1, none⟩ = some (.int .i64 kind) ∧ W.cell? ⟨g, 2, none⟩ = some (.int .u16 seq) ∧ W.cell? ⟨g, 3, none⟩ = some (.int .u32 time) ∧ W.cell? ⟨g, 4, none⟩ = some (.int .u32 source) ∧ W.cell? ⟨g, 5, none⟩ = some (.slice a others.length c) ∧ W.cell? ⟨g, 6, none⟩ = some (.bool hx) ∧ W.cell? ⟨g, 7, none⟩ = some (.int .i64 prof) ∧ W.cell? ⟨g, 8, none⟩ = some (.string ext) ∧ HdrAt W g #[.bool mrk, .int .i64 kind, .int .u16 seq, .int .u32 time, .int .u32 source, .slice a others.length c, .bool hx, .int .i64 prof, .string ext]) (first | (go_keep; done) | exact hdr_S (HdrAt.drew (by go_split_ands; assumption)) | exact hdr_S (HdrAt.alloc (by go_split_ands; assumption) _) | exact hdr_S (HdrAt.others (by go_split_ands; assumption) g1 (by assumption)) | (go_split_ands; assumption)) (first | (go_at_call 57; refine (H128.out _).mono ?_; rintro e w' ⟨rfl, rfl⟩) | (go_at_call 58; refine (u8_g B b v [] [F, S] #[.int .i64 F, .int .i64 S] 2 _ w2 _ hO2 (by go_grown) (by first | exact heap_at_new _ _ _ (by first | rfl | simp)) (by have := hO2.lt; simp; omega) rfl rfl (by simp) (by simp)).mono ?_; rintro e w3 ⟨rfl, v3, hO3, h3, ho3⟩))
  have hb3 : Below B w w3 := Below.trans (show Below B w _ from (hb2.alloc (by have := hO2.lt; omega) _).drew) h3
  have ho4 : Others b w w3 := Others.trans (show Others b w _ from (ho2.alloc _).drew) ho3
  have hh3 : HdrAt w3 g #[.bool mrk, .int .i64 kind, .int .u16 seq, .int .u32 time, .int .u32 source, .slice a others.length c, .bool hx, .int .i64 prof, .string ext] := by go_split_ands; assumption
  have hB3 : B ≤ w3.heap.size := by have := hO3.lt; omega
  have hgg3 : g < w3.heap.size := lt_of_block hh3
  have hbw3 : b < w3.heap.size := hO3.lt
  clear hO2 hb2 ho2 hh2 c0 c1 c2 c3 c4 c5 c6 c7 c8 h3 ho3 hgg
  obtain ⟨c0, c1, c2, c3, c4, c5, c6, c7, c8, _⟩ := hdr_S hh3
  rw [List.nil_append] at hO3
  have hL3 : (bes [F, S] 1).length = 2 := by simp [bes_len]
  have HL3 := Lib.hid hL3
  clear hL3
  have tok1 : True := trivial
  have hws : IntKind.i64.wrap seq = seq := IntWalk.i64_in _ ⟨by omega, by omega⟩
  go_wp2_with fail
  go_region_held3 (fun W => W.cell? ⟨g, 0, none⟩ = some (.bool mrk) ∧ W.cell? ⟨g, 1, none⟩ = some (.int .i64 kind) ∧ W.cell? ⟨g, 2, none⟩ = some (.int .u16 seq) ∧ W.cell? ⟨g, 3, none⟩ = some (.int .u32 time) ∧ W.cell? ⟨g, 4, none⟩ = some (.int .u32 source) ∧ W.cell? ⟨g, 5, none⟩ = some (.slice a others.length c) ∧ W.cell? ⟨g, 6, none⟩ = some (.bool hx) ∧ W.cell? ⟨g, 7, none⟩ = some (.int .i64 prof) ∧ W.cell? ⟨g, 8, none⟩ = some (.string ext) ∧ HdrAt W g #[.bool mrk, .int .i64 kind, .int .u16 seq, .int .u32 time, .int .u32 source, .slice a others.length c, .bool hx, .int .i64 prof, .string ext]) (first | (go_keep; done) | exact hdr_S (HdrAt.drew (by go_split_ands; assumption)) | exact hdr_S (HdrAt.alloc (by go_split_ands; assumption) _) | exact hdr_S (HdrAt.others (by go_split_ands; assumption) g1 (by assumption)) | (go_split_ands; assumption)) (first | (go_at_call 59; refine (u16_g B b v3 (bes [F, S] 1) [seq] #[.int .i64 seq] 1 _ w3 _ hO3 (by go_grown) (by first | exact heap_at_new _ _ _ (by first | rfl | simp) | exact heap_at_old _ _ _ _ (heap_at_new _ _ _ (by first | rfl | simp))) (by first | omega | (simp; done) | (simp; omega)) rfl rfl (by rw [HL3.out]; simp) (by simp)).mono ?_; rintro e w4 ⟨rfl, v4, hO4, h4, ho5⟩; have hb4 : Below B w w4 := Below.trans (by go_grown) h4; have hq4 : Others b w w4 := Others.trans (by first | exact ho4.alloc _ | exact (ho4.alloc _).alloc _) ho5) | (have _t := tok1; go_at_call 60; refine (u32_g B b v4 _ [time, source] #[.int .u32 time, .int .u32 source] 2 _ w4 _ hO4 (by go_grown) (by first | exact heap_at_new _ _ _ (by first | rfl | simp) | exact ho5 _ _ (heap_at_new _ _ _ (by first | rfl | simp)) (by simp; omega) (by intro cur p e; cases e) | exact ho5 _ _ (heap_at_old _ _ _ _ (heap_at_new _ _ _ (by first | rfl | simp))) (by simp; omega) (by intro cur p e; cases e)) (by simp; have := hO4.lt; omega) rfl rfl (by rw [List.length_append, HL3.out]; simp [bes_len]) (by simp)).mono ?_; rintro e w5 ⟨rfl, v5, hO5, h5, ho6⟩; have hb5 : Below B w w5 := Below.trans (by first | exact hb4 | exact hb4.alloc (by have := hO4.lt; omega) _) h5; have hq5 : Others b w w5 := Others.trans (by first | exact hq4 | exact hq4.alloc _) ho6; clear tok1) | (go_at_call 60; refine (u32_any B b v5 _ others a c _ _ hO5 rfl (fun w' h1 h2 => hr w' (hb5.trans h1) (hq5.trans h2)) (by omega) (by rw [List.length_append, List.length_append, HL3.out]; simp [bes_len]; omega)).mono ?_; rintro e w6 ⟨rfl, v6, hO6, h6, ho7⟩))
  all_goals
    have hb6 : Below B w w6 := hb5.trans h6
    have hq6 : Others b w w6 := hq5.trans ho7
    have hh6 : HdrAt w6 g #[.bool mrk, .int .i64 kind, .int .u16 seq, .int .u32 time, .int .u32 source, .slice a others.length c, .bool hx, .int .i64 prof, .string ext] := by go_split_ands; assumption
    have hB6 : B ≤ w6.heap.size := by have := hO6.lt; omega
    have hgg6 : g < w6.heap.size := lt_of_block hh6
    have hbw6 : b < w6.heap.size := hO6.lt
    have hLL : (bes [F, S] 1 ++ bes [seq] 2 ++ bes [time, source] 4 ++ bes others 4).length ≤ 100 := by
      simp only [List.length_append, bes_len]; simp; omega
    have hres : Hid (bes [F, S] 1 ++ bes [seq] 2 ++ bes [time, source] 4 ++ bes others 4 = be F 1 ++ be S 1 ++ be seq 2 ++ be time 4 ++ be source 4 ++ bes others 4) := by
      show _ = _
      rw [bes_two, bes_one, bes_two]
      simp only [List.append_assoc]
    clear hO3 hb3 ho4 hh3 c0 c1 c2 c3 c4 c5 c6 c7 c8 hO4 h4 ho5 hb4 hq4 hO5 h5 ho6 hb5 hq5 h6 ho7 hr HL3 H32 H16 H128 s3' hws
    obtain ⟨c0, c1, c2, c3, c4, c5, c6, c7, c8, _⟩ := hdr_S hh6
    generalize bes [F, S] 1 ++ bes [seq] 2 ++ bes [time, source] 4 ++ bes others 4 = L6 at hO6 hLL hres
    cases hx
    · go_wp2
      go_end0
      exact ⟨rfl, v6, by rw [← HLh.out, HFF.out, HSS.out, if_neg (by decide), List.append_nil, ← hres.out]; exact hO6, hb6, hq6⟩
    · obtain ⟨p1, p2, p3, p4⟩ := ht rfl
      have hz1 : (ext.size : Int) / 4 = ((ext.size / 4 : Nat) : Int) := by omega
      have hz2 : ext.size / 4 ≤ 65535 := by omega
      have hz3 : ext.size ≤ 262140 := by omega
      have hLh2 : Hid (L6 ++ be prof 2 ++ be ((ext.size / 4 : Nat) : Int) 2 ++ by_ ext = Lh) := by
        show _ = _
        rw [← HLh.out, HFF.out, HSS.out, if_pos rfl, hres.out]
        simp only [List.append_assoc]
      generalize ext.size / 4 = q at hz1 hz2 hLh2
      clear hf ht HLh hres
      have hqw : IntKind.i64.wrap (q : Int) = (q : Int) := IntWalk.i64_in _ ⟨by omega, by omega⟩
      go_wp2_with fail
      go_region_held3 (fun W => W.cell? ⟨g, 0, none⟩ = some (.bool mrk) ∧ W.cell? ⟨g, 1, none⟩ = some (.int .i64 kind) ∧ W.cell? ⟨g, 2, none⟩ = some (.int .u16 seq) ∧ W.cell? ⟨g, 3, none⟩ = some (.int .u32 time) ∧ W.cell? ⟨g, 4, none⟩ = some (.int .u32 source) ∧ W.cell? ⟨g, 5, none⟩ = some (.slice a others.length c) ∧ W.cell? ⟨g, 6, none⟩ = some (.bool true) ∧ W.cell? ⟨g, 7, none⟩ = some (.int .i64 prof) ∧ W.cell? ⟨g, 8, none⟩ = some (.string ext) ∧ HdrAt W g #[.bool mrk, .int .i64 kind, .int .u16 seq, .int .u32 time, .int .u32 source, .slice a others.length c, .bool true, .int .i64 prof, .string ext]) (first | (go_keep; done) | exact hdr_S (HdrAt.drew (by go_split_ands; assumption)) | exact hdr_S (HdrAt.alloc (by go_split_ands; assumption) _) | exact hdr_S (HdrAt.others (by go_split_ands; assumption) g1 (by assumption)) | (go_split_ands; assumption)) (first | (go_at_call 59; refine (u16_g B b v6 L6 [prof, (q : Int)] #[.int .i64 prof, .int .i64 (q : Int)] 2 _ w6 _ hO6 (by go_grown) (by first | exact heap_at_new _ _ _ (by first | rfl | simp) | exact heap_at_old _ _ _ _ (heap_at_new _ _ _ (by first | rfl | simp))) (by first | omega | (simp; done) | (simp; omega)) rfl rfl (by simp; omega) (by simp)).mono ?_; rintro e w7 ⟨rfl, v7, hO7, h7, ho8⟩; have hb7 : Below B w w7 := Below.trans (by go_grown) h7; have hq7 : Others b w w7 := Others.trans (by first | exact hq6.alloc _ | exact (hq6.alloc _).alloc _) ho8) | (go_at_call 34; refine (outRaw_g B b v7 _ [ext] #[.string ext] 1 _ w7 _ hO7 (by go_grown) (by first | exact heap_at_new _ _ _ (by first | rfl | simp) | exact ho8 _ _ (heap_at_new _ _ _ (by first | rfl | simp)) (by first | omega | (simp; done) | (simp; omega)) (by intro cur p e; cases e) | exact ho8 _ _ (heap_at_old _ _ _ _ (heap_at_new _ _ _ (by first | rfl | simp))) (by first | omega | (simp; done) | (simp; omega)) (by intro cur p e; cases e)) (by have := hO7.lt; first | omega | (simp; omega)) rfl rfl (by rw [cat_one, by_len, List.length_append]; simp [bes_len]; omega) (by simp)).mono ?_; rintro e w8 ⟨rfl, v8, hO8, h8, ho9⟩; have hb8 : Below B w w8 := Below.trans (by first | exact hb7 | exact hb7.alloc (by have := hO7.lt; omega) _) h8; have hq8 : Others b w w8 := Others.trans (by first | exact hq7 | exact hq7.alloc _) ho9))
      all_goals
        go_wp2
        go_end0
        have hO9 : OutAt w8 B b v8 Lh := by
          have h := hO8
          rw [bes_two, cat_one, ← List.append_assoc L6] at h
          rw [← hLh2.out]; exact h
        exact ⟨rfl, v8, hO9, hb8, hq8⟩
end Go.Proofs.Ytilobmebfeenfaa
