/- rtp: packets as values; which may be. -/
import Derived.Test.YtilobmebfeenfaaPenL
import Derived.Test.YtilobmebfeenfaaCut
namespace Go.Proofs.Ytilobmebfeenfaa
open Go.RowKit
set_option linter.unusedVariables false
/-- A packet. -/
structure PK where
  mrk : Bool
  kind : Int
  seq : Int
  time : Int
  source : Int
  others : List Int
  hx : Bool
  prof : Int
  ext : ByteArray
  data : ByteArray
  pad : Int
def PK.cells (p : PK) (a : Option Addr) (c : Nat) : Array Value := #[.bool p.mrk, .int .i64 p.kind, .int .u16 p.seq, .int .u32 p.time, .int .u32 p.source, .slice a p.others.length c, .bool p.hx, .int .i64 p.prof, .string p.ext, .string p.data, .int .i64 p.pad]
def PK.hcells (p : PK) (a : Option Addr) (c : Nat) : Array Value := #[.bool p.mrk, .int .i64 p.kind, .int .u16 p.seq, .int .u32 p.time, .int .u32 p.source, .slice a p.others.length c, .bool p.hx, .int .i64 p.prof, .string p.ext]
def PK.rcells (p : PK) (a : Option Addr) (c : Nat) : Array Value := #[.bool p.mrk, .int .i64 p.kind, .int .i64 p.seq, .int .i64 p.time, .int .i64 p.source, .slice a p.others.length c, .bool p.hx, .int .i64 p.prof, .string p.ext, .string p.data, .int .i64 p.pad]
def hdrOk (p : PK) : Prop := 0 ≤ p.kind ∧ p.kind ≤ 127 ∧ p.others.length ≤ 15 ∧ (p.hx = false → p.prof = 0 ∧ p.ext.size = 0) ∧ (p.hx = true → 0 ≤ p.prof ∧ p.prof ≤ 65535 ∧ p.ext.size % 4 = 0 ∧ p.ext.size ≤ 262140)
def mayOk (p : PK) : Prop := hdrOk p ∧ 0 ≤ p.pad ∧ p.pad ≤ 255
instance (p : PK) : Decidable (hdrOk p) := by unfold hdrOk; infer_instance
instance (p : PK) : Decidable (mayOk p) := by unfold mayOk; infer_instance
theorem hdr_f (mrk : Bool) (kind seq time source : Int) (others : List Int) (prof : Int) (ext data : ByteArray) (pad : Int) : hdrOk ⟨mrk, kind, seq, time, source, others, false, prof, ext, data, pad⟩ ↔ (0 ≤ kind ∧ kind ≤ 127 ∧ others.length ≤ 15 ∧ prof = 0 ∧ ext.size = 0) :=
  ⟨fun ⟨h1, h2, h3, h4, h5⟩ => ⟨h1, h2, h3, (h4 rfl).1, (h4 rfl).2⟩, fun ⟨h1, h2, h3, h4, h5⟩ => ⟨h1, h2, h3, fun _ => ⟨h4, h5⟩, fun h => by cases h⟩⟩
theorem hdr_t (mrk : Bool) (kind seq time source : Int) (others : List Int) (prof : Int) (ext data : ByteArray) (pad : Int) : hdrOk ⟨mrk, kind, seq, time, source, others, true, prof, ext, data, pad⟩ ↔ (0 ≤ kind ∧ kind ≤ 127 ∧ others.length ≤ 15 ∧ 0 ≤ prof ∧ prof ≤ 65535 ∧ ext.size % 4 = 0 ∧ ext.size ≤ 262140) :=
  ⟨fun ⟨h1, h2, h3, h4, h5⟩ => ⟨h1, h2, h3, h5 rfl⟩, fun ⟨h1, h2, h3, h4⟩ => ⟨h1, h2, h3, fun h => (by cases h), fun _ => h4⟩⟩
set_option maxHeartbeats 1600000 in
theorem headerMayBe_b (p : PK) (a : Option Addr) (c : Nat) (w : World) (hs : p.ext.size ≤ 9223372036854775807) (hl : p.others.length ≤ 9223372036854775807) (b : Bool) (hb : b = true ↔ hdrOk p) :
    Calls Try.prog 37 #[.agg (p.hcells a c)] w fun e w' => e = .returned (.bool b) ∧ Below w.heap.size w w' := by
  obtain ⟨mrk, kind, seq, time, source, others, hx, prof, ext, data, pad⟩ := p
  simp only [PK.hcells] at *
  have he := isEmpty_size ext
  cases hx
  · rw [hdr_f] at hb
    by_cases k1 : kind < 0
    · skip
      obtain rfl : b = false := by
        cases b with
        | false => rfl
        | true => exact absurd (hb.1 rfl) (by omega)
      clear hb
      go_enter Try.func37, Try.ntmps37
      go_wp2
      go_ret
      exact ⟨rfl, (Below.refl _ _).alloc (Nat.le_refl _) _⟩
    · by_cases k2 : 127 < kind
      · skip
        obtain rfl : b = false := by
          cases b with
          | false => rfl
          | true => exact absurd (hb.1 rfl) (by omega)
        clear hb
        go_enter Try.func37, Try.ntmps37
        go_wp2
        go_ret
        exact ⟨rfl, (Below.refl _ _).alloc (Nat.le_refl _) _⟩
      · by_cases k3 : 15 < others.length
        · skip
          obtain rfl : b = false := by
            cases b with
            | false => rfl
            | true => exact absurd (hb.1 rfl) (by omega)
          clear hb
          go_enter Try.func37, Try.ntmps37
          go_wp2
          go_ret
          exact ⟨rfl, (Below.refl _ _).alloc (Nat.le_refl _) _⟩
        · by_cases k4 : prof = 0
          · by_cases k5 : ext.size = 0
            · rw [decide_eq_true k5] at he
              obtain rfl : b = true := hb.2 (by omega)
              clear k5
              subst k4
              clear hb
              go_enter Try.func37, Try.ntmps37
              go_wp2
              go_ret
              exact ⟨rfl, (Below.refl _ _).alloc (Nat.le_refl _) _⟩
            · rw [decide_eq_false k5] at he
              obtain rfl : b = false := by
                cases b with
                | false => rfl
                | true => exact absurd (hb.1 rfl) (by omega)
              clear k5
              subst k4
              clear hb
              go_enter Try.func37, Try.ntmps37
              go_wp2
              go_ret
              exact ⟨rfl, (Below.refl _ _).alloc (Nat.le_refl _) _⟩
          · have hb' : (prof == 0) = false := by simpa using k4
            clear he
            obtain rfl : b = false := by
              cases b with
              | false => rfl
              | true => exact absurd (hb.1 rfl) (by omega)
            clear k4
            clear hb
            go_enter Try.func37, Try.ntmps37
            go_wp2
            go_ret
            exact ⟨rfl, (Below.refl _ _).alloc (Nat.le_refl _) _⟩
  · rw [hdr_t] at hb
    clear he
    by_cases k1 : kind < 0
    · skip
      obtain rfl : b = false := by
        cases b with
        | false => rfl
        | true => exact absurd (hb.1 rfl) (by omega)
      clear hb
      go_enter Try.func37, Try.ntmps37
      go_wp2
      go_ret
      exact ⟨rfl, (Below.refl _ _).alloc (Nat.le_refl _) _⟩
    · by_cases k2 : 127 < kind
      · skip
        obtain rfl : b = false := by
          cases b with
          | false => rfl
          | true => exact absurd (hb.1 rfl) (by omega)
        clear hb
        go_enter Try.func37, Try.ntmps37
        go_wp2
        go_ret
        exact ⟨rfl, (Below.refl _ _).alloc (Nat.le_refl _) _⟩
      · by_cases k3 : 15 < others.length
        · skip
          obtain rfl : b = false := by
            cases b with
            | false => rfl
            | true => exact absurd (hb.1 rfl) (by omega)
          clear hb
          go_enter Try.func37, Try.ntmps37
          go_wp2
          go_ret
          exact ⟨rfl, (Below.refl _ _).alloc (Nat.le_refl _) _⟩
        · by_cases k4 : prof < 0
          · skip
            obtain rfl : b = false := by
              cases b with
              | false => rfl
              | true => exact absurd (hb.1 rfl) (by omega)
            clear hb
            go_enter Try.func37, Try.ntmps37
            go_wp2
            go_ret
            exact ⟨rfl, (Below.refl _ _).alloc (Nat.le_refl _) _⟩
          · by_cases k5 : 65535 < prof
            · skip
              obtain rfl : b = false := by
                cases b with
                | false => rfl
                | true => exact absurd (hb.1 rfl) (by omega)
              clear hb
              go_enter Try.func37, Try.ntmps37
              go_wp2
              go_ret
              exact ⟨rfl, (Below.refl _ _).alloc (Nat.le_refl _) _⟩
            · by_cases k6 : ext.size % 4 = 0
              · have hb' : (((ext.size : Int) % 4) == 0) = true := by simp; omega
                by_cases k7 : 262140 < ext.size
                · have h7 : decide ((ext.size : Int) ≤ 262140) = false := by simp; omega
                  obtain rfl : b = false := by
                    cases b with
                    | false => rfl
                    | true => exact absurd (hb.1 rfl) (by omega)
                  clear k6 k7
                  clear hb
                  go_enter Try.func37, Try.ntmps37
                  go_wp2
                  go_ret
                  exact ⟨rfl, (Below.refl _ _).alloc (Nat.le_refl _) _⟩
                · have h7 : decide ((ext.size : Int) ≤ 262140) = true := by simp; omega
                  obtain rfl : b = true := hb.2 (by omega)
                  clear k6 k7
                  clear hb
                  go_enter Try.func37, Try.ntmps37
                  go_wp2
                  go_ret
                  exact ⟨rfl, (Below.refl _ _).alloc (Nat.le_refl _) _⟩
              · have hb' : (((ext.size : Int) % 4) == 0) = false := by simp; omega
                obtain rfl : b = false := by
                  cases b with
                  | false => rfl
                  | true => exact absurd (hb.1 rfl) (by omega)
                clear k6
                clear hb
                go_enter Try.func37, Try.ntmps37
                go_wp2
                go_ret
                exact ⟨rfl, (Below.refl _ _).alloc (Nat.le_refl _) _⟩
theorem check_b (p : PK) (a : Option Addr) (c : Nat) (w : World) (hs : p.ext.size ≤ 9223372036854775807) (hl : p.others.length ≤ 9223372036854775807) (r : Int) (hr : (r = 0 ∧ mayOk p) ∨ (r = 6 ∧ ¬ mayOk p)) :
    Calls Try.prog 13 #[.agg (p.cells a c)] w fun e w' => e = .returned (.int .i64 r) ∧ Below w.heap.size w w' := by
  by_cases hh : hdrOk p
  · have HH : ∀ W, _ := fun W => headerMayBe_b p a c W hs hl true (by simp [hh])
    have hm : mayOk p ↔ 0 ≤ p.pad ∧ p.pad ≤ 255 := by unfold mayOk; simp [hh]
    obtain ⟨mrk, kind, seq, time, source, others, hx, prof, ext, data, pad⟩ := p
    simp only [PK.cells, PK.hcells] at *
    have HH' := Lib.hid HH
    rw [hm] at hr
    clear HH hh hm
    by_cases k1 : pad < 0
    · obtain rfl : r = 6 := by omega
      clear hr
      go_enter Try.func13, Try.ntmps13
      go_wp2_with ((go_at_call 37; refine (HH'.out _).mono ?_; rintro e w' ⟨rfl, hb⟩; obtain ⟨hc, hf⟩ := bcell hb))
      go_ret
      exact ⟨rfl, ((Below.refl _ _).alloc (Nat.le_refl _) _).trans (hb.mono (by simp))⟩
    · by_cases k2 : 255 < pad
      · obtain rfl : r = 6 := by omega
        clear hr
        go_enter Try.func13, Try.ntmps13
        go_wp2_with ((go_at_call 37; refine (HH'.out _).mono ?_; rintro e w' ⟨rfl, hb⟩; obtain ⟨hc, hf⟩ := bcell hb))
        go_ret
        exact ⟨rfl, ((Below.refl _ _).alloc (Nat.le_refl _) _).trans (hb.mono (by simp))⟩
      · obtain rfl : r = 0 := by omega
        clear hr
        go_enter Try.func13, Try.ntmps13
        go_wp2_with ((go_at_call 37; refine (HH'.out _).mono ?_; rintro e w' ⟨rfl, hb⟩; obtain ⟨hc, hf⟩ := bcell hb))
        go_ret
        exact ⟨rfl, ((Below.refl _ _).alloc (Nat.le_refl _) _).trans (hb.mono (by simp))⟩
  · have HH : ∀ W, _ := fun W => headerMayBe_b p a c W hs hl false (by simp [hh])
    obtain rfl : r = 6 := by
      rcases hr with ⟨_, h⟩ | ⟨h, _⟩
      · exact absurd h.1 hh
      · exact h
    obtain ⟨mrk, kind, seq, time, source, others, hx, prof, ext, data, pad⟩ := p
    simp only [PK.cells, PK.hcells] at *
    have HH' := Lib.hid HH
    clear HH hh hr
    go_enter Try.func13, Try.ntmps13
    go_wp2_with ((go_at_call 37; refine (HH'.out _).mono ?_; rintro e w' ⟨rfl, hb⟩; obtain ⟨hc, hf⟩ := bcell hb))
    go_ret
    exact ⟨rfl, ((Below.refl _ _).alloc (Nat.le_refl _) _).trans (hb.mono (by simp))⟩
end Go.Proofs.Ytilobmebfeenfaa
