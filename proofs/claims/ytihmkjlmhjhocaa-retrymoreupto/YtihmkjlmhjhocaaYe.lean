/- The laws' own check of the chapter's first example answers true; no condition. -/
import Derived.Test.YtihmkjlmhjhocaaYb
import Derived.Test.YtihmkjlmhjhocaaYd
namespace Go.Proofs.Ytihmkjlmhjhocaa
open Go.RowKit

/-- The one that is tried again. -/
def badR : Re := ⟨100, 1, 0, 0, false, 0, 0, 0, ⟨#[]⟩, none, 0, 0⟩
theorem bad_ag : badR.ag = true := by decide
theorem zero_ag : Re.zero.ag = false := by decide
theorem md3 {m : Nat} {x : Re} (h : Md 3 [badR, Re.zero, Re.zero] m x) : m = 2 ∧ x = Re.zero := by
  have h1 := h.le
  have h2 := h.fin
  have h3 := h.last
  have h4 := h.ahead 1 Re.zero
  match m, h1, h2, h3, h4 with
  | 0, _, h2, _, _ => omega
  | 1, _, h2, h3, _ =>
    have : badR = x := by simpa using h3
    subst this
    rw [bad_ag] at h2
    simp at h2
  | 2, _, _, h3, _ => exact ⟨rfl, by simpa using (h3 (by omega)).symm⟩
  | 3, _, _, _, h4 => have := h4 (by omega) rfl; rw [zero_ag] at this; cases this
  | m + 4, h1, _, _, _ => omega
theorem md1 {m : Nat} {x : Re} (h : Md 1 [badR, Re.zero] m x) : m = 1 ∧ x = badR := by
  have h1 := h.le
  have h2 := h.fin
  have h3 := h.last
  match m, h1, h2, h3 with
  | 0, _, h2, _ => omega
  | 1, _, _, h3 => exact ⟨rfl, by simpa using (h3 (by omega)).symm⟩
  | m + 2, h1, _, _ => omega

/-- Run over results whose bodies are nothing. -/
theorem run_plain (tries : Int) (ad : Option Addr) (zs : List Re) (cap : Nat) (w : World) (hreach : zs.length ≤ 9223372036854775807) (hcap : zs.length ≤ cap) (hI : Rrow w ad zs) (hz : ∀ x ∈ zs, x.n = 0) :
    Calls Try.prog 12 #[.int .i64 tries, .slice ad zs.length cap] w fun e w' => ∃ m x k i u s a n c, Md (most tries zs.length) zs m x ∧ e = .returned (.tuple #[.agg #[.int .i64 x.er, .int .i64 x.co, .int .i64 x.pk, .int .i64 x.pn, .bool x.has, .int .i64 k, .int .i64 i, .int .u64 u, .string s, .slice a n c], .int .i64 m]) ∧ Below w.heap.size w w' := by
  refine (run_any tries ad zs cap w hreach hcap hI (fun _ _ _ _ _ _ _ _ _ _ => True) (fun _ _ _ _ _ _ _ _ _ _ _ h _ _ => h) fun x hx wx _ => ?_).mono fun e w' ⟨m, x, k, i, u, s, a, n, c, _, h1, h2, _, _, h3⟩ => ⟨m, x, k, i, u, s, a, n, c, h1, h2, h3⟩
  have h0 : x.n = 0 := by
    rcases hx with hx | rfl
    · exact hz x hx
    · rfl
  rw [h0]
  exact (copy_leaf _ _ _ _ _ _ _).mono fun e w' ⟨he, hb⟩ => ⟨_, _, _, _, _, _, _, he, trivial, hb⟩

theorem row3 {w : World} {b : Nat} (h : Bk w b #[.int .i64 100, .int .i64 1, .int .i64 0, .int .i64 0, .bool false, .int .i64 0, .int .i64 0, .int .u64 0, .string ⟨#[]⟩, .slice none 0 0, .int .i64 0, .int .i64 0, .int .i64 0, .int .i64 0, .bool false, .int .i64 0, .int .i64 0, .int .u64 0, .string ⟨#[]⟩, .slice none 0 0, .int .i64 0, .int .i64 0, .int .i64 0, .int .i64 0, .bool false, .int .i64 0, .int .i64 0, .int .u64 0, .string ⟨#[]⟩, .slice none 0 0] 30) : Rrow w (some ⟨b, 0, none⟩) [badR, Re.zero, Re.zero] := by
  refine .inr ⟨b, 0, rfl, h.lt, fun j x hj => ?_⟩
  have c := h.c
  match j, hj with
  | 0, hj => obtain rfl : badR = x := by simpa using hj
             simp [ReAt, c, badR]
  | 1, hj => obtain rfl : Re.zero = x := by simpa using hj
             simp [ReAt, c, Re.zero]
  | 2, hj => obtain rfl : Re.zero = x := by simpa using hj
             simp [ReAt, c, Re.zero]
  | j + 3, hj => simp at hj
theorem row2 {w : World} {b : Nat} (h : Bk w b #[.int .i64 100, .int .i64 1, .int .i64 0, .int .i64 0, .bool false, .int .i64 0, .int .i64 0, .int .u64 0, .string ⟨#[]⟩, .slice none 0 0, .int .i64 0, .int .i64 0, .int .i64 0, .int .i64 0, .bool false, .int .i64 0, .int .i64 0, .int .u64 0, .string ⟨#[]⟩, .slice none 0 0] 30) : Rrow w (some ⟨b, 0, none⟩) [badR, Re.zero] := by
  refine .inr ⟨b, 0, rfl, h.lt, fun j x hj => ?_⟩
  have c := h.c
  match j, hj with
  | 0, hj => obtain rfl : badR = x := by simpa using hj
             simp [ReAt, c, badR]
  | 1, hj => obtain rfl : Re.zero = x := by simpa using hj
             simp [ReAt, c, Re.zero]
  | j + 2, hj => simp at hj
theorem run3 {w : World} {b : Nat} (h : Bk w b #[.int .i64 100, .int .i64 1, .int .i64 0, .int .i64 0, .bool false, .int .i64 0, .int .i64 0, .int .u64 0, .string ⟨#[]⟩, .slice none 0 0, .int .i64 0, .int .i64 0, .int .i64 0, .int .i64 0, .bool false, .int .i64 0, .int .i64 0, .int .u64 0, .string ⟨#[]⟩, .slice none 0 0, .int .i64 0, .int .i64 0, .int .i64 0, .int .i64 0, .bool false, .int .i64 0, .int .i64 0, .int .u64 0, .string ⟨#[]⟩, .slice none 0 0] 30) : Calls Try.prog 12 #[.int .i64 3, .slice (some ⟨b, 0, none⟩) 3 3] w fun e w' => ∃ k i u s a n c, e = .returned (.tuple #[.agg #[.int .i64 0, .int .i64 0, .int .i64 0, .int .i64 0, .bool false, .int .i64 k, .int .i64 i, .int .u64 u, .string s, .slice a n c], .int .i64 2]) ∧ Below w.heap.size w w' := by
  refine (run_plain 3 (some ⟨b, 0, none⟩) [badR, Re.zero, Re.zero] 3 w (by simp) (by simp) (row3 h) (fun x hx => by simp at hx; rcases hx with rfl | rfl <;> rfl)).mono fun e w' ⟨m, x, k, i, u, s, a, n, c, h1, h2, h3⟩ => ?_
  obtain ⟨rfl, rfl⟩ := md3 h1
  exact ⟨k, i, u, s, a, n, c, h2, h3⟩
theorem run2 {w : World} {b : Nat} (h : Bk w b #[.int .i64 100, .int .i64 1, .int .i64 0, .int .i64 0, .bool false, .int .i64 0, .int .i64 0, .int .u64 0, .string ⟨#[]⟩, .slice none 0 0, .int .i64 0, .int .i64 0, .int .i64 0, .int .i64 0, .bool false, .int .i64 0, .int .i64 0, .int .u64 0, .string ⟨#[]⟩, .slice none 0 0] 30) : Calls Try.prog 12 #[.int .i64 0, .slice (some ⟨b, 0, none⟩) 2 2] w fun e w' => ∃ k i u s a n c, e = .returned (.tuple #[.agg #[.int .i64 100, .int .i64 1, .int .i64 0, .int .i64 0, .bool false, .int .i64 k, .int .i64 i, .int .u64 u, .string s, .slice a n c], .int .i64 1]) ∧ Below w.heap.size w w' := by
  refine (run_plain 0 (some ⟨b, 0, none⟩) [badR, Re.zero] 2 w (by simp) (by simp) (row2 h) (fun x hx => by simp at hx; rcases hx with rfl | rfl <;> rfl)).mono fun e w' ⟨m, x, k, i, u, s, a, n, c, h1, h2, h3⟩ => ?_
  obtain ⟨rfl, rfl⟩ := md1 h1
  exact ⟨k, i, u, s, a, n, c, h2, h3⟩
theorem wt40 : wt 3 5 100 = 40 := by decide

set_option maxRecDepth 100000 in
set_option maxHeartbeats 2000000 in
theorem awake_any (w : World) : Calls Try.prog 8 #[] w fun e w' => e = .returned (.bool true) ∧ Below w.heap.size w w' := by
  have B0 := (Bk.new w #[.int .i64 100, .int .i64 1, .int .i64 0, .int .i64 0, .bool false, .int .i64 0, .int .i64 0, .int .u64 0, .string ⟨#[]⟩, .slice none 0 0] 30).alloc (.cells #[.int .i64 100, .int .i64 1, .int .i64 0, .int .i64 0, .bool false, .int .i64 0, .int .i64 0, .int .u64 0, .string ⟨#[]⟩, .slice none 0 0, .int .i64 0, .int .i64 0, .int .i64 0, .int .i64 0, .bool false, .int .i64 0, .int .i64 0, .int .u64 0, .string ⟨#[]⟩, .slice none 0 0, .int .i64 0, .int .i64 0, .int .i64 0, .int .i64 0, .bool false, .int .i64 0, .int .i64 0, .int .u64 0, .string ⟨#[]⟩, .slice none 0 0] 30)
  have R0 := Bk.new2 w (.cells #[.int .i64 100, .int .i64 1, .int .i64 0, .int .i64 0, .bool false, .int .i64 0, .int .i64 0, .int .u64 0, .string ⟨#[]⟩, .slice none 0 0] 30) #[.int .i64 100, .int .i64 1, .int .i64 0, .int .i64 0, .bool false, .int .i64 0, .int .i64 0, .int .u64 0, .string ⟨#[]⟩, .slice none 0 0, .int .i64 0, .int .i64 0, .int .i64 0, .int .i64 0, .bool false, .int .i64 0, .int .i64 0, .int .u64 0, .string ⟨#[]⟩, .slice none 0 0, .int .i64 0, .int .i64 0, .int .i64 0, .int .i64 0, .bool false, .int .i64 0, .int .i64 0, .int .u64 0, .string ⟨#[]⟩, .slice none 0 0] 30
  have bel := below2 w (.cells #[.int .i64 100, .int .i64 1, .int .i64 0, .int .i64 0, .bool false, .int .i64 0, .int .i64 0, .int .u64 0, .string ⟨#[]⟩, .slice none 0 0] 30) (.cells #[.int .i64 100, .int .i64 1, .int .i64 0, .int .i64 0, .bool false, .int .i64 0, .int .i64 0, .int .u64 0, .string ⟨#[]⟩, .slice none 0 0, .int .i64 0, .int .i64 0, .int .i64 0, .int .i64 0, .bool false, .int .i64 0, .int .i64 0, .int .u64 0, .string ⟨#[]⟩, .slice none 0 0, .int .i64 0, .int .i64 0, .int .i64 0, .int .i64 0, .bool false, .int .i64 0, .int .i64 0, .int .u64 0, .string ⟨#[]⟩, .slice none 0 0] 30)
  have R1 := Lib.hid (run3 R0)
  have HB := Lib.hid B0
  have HL := Lib.hid bel
  clear B0 R0 bel
  go_enter Try.func8, Try.ntmps8
  go_wp2_with fail
  refine R1.out.mono ?_
  rintro e w1 ⟨k, i, u, s, a, n, c, rfl, b1⟩
  have B1 := HB.out.step b1
  have L1 := HL.out.trans (b1.mono HL.out.size)
  clear b1 R1 HB HL
  have B2 := B1.alloc (.cells #[.int .i64 0, .int .i64 0, .int .i64 0, .int .i64 0, .bool false, .int .i64 k, .int .i64 i, .int .u64 u, .string s, .slice a n c] 30)
  have C2 := Bk.new w1 #[.int .i64 0, .int .i64 0, .int .i64 0, .int .i64 0, .bool false, .int .i64 k, .int .i64 i, .int .u64 u, .string s, .slice a n c] 30
  have L2 := L1.trans ((below1 w1 (.cells #[.int .i64 0, .int .i64 0, .int .i64 0, .int .i64 0, .bool false, .int .i64 k, .int .i64 i, .int .u64 u, .string s, .slice a n c] 30)).mono L1.size)
  obtain ⟨x0, x1, x2, x3, x4, x5, x6, x7, x8, x9⟩ := B1.c10
  have hlt := B1.lt
  have HB2 := Lib.hid B2
  have HC2 := Lib.hid C2
  have HL2 := Lib.hid L2
  clear B1 L1 B2 C2 L2
  go_wp2_with fail
  refine (run2 (Bk.new2 w1 (.cells #[.int .i64 0, .int .i64 0, .int .i64 0, .int .i64 0, .bool false, .int .i64 k, .int .i64 i, .int .u64 u, .string s, .slice a n c] 30) #[.int .i64 100, .int .i64 1, .int .i64 0, .int .i64 0, .bool false, .int .i64 0, .int .i64 0, .int .u64 0, .string ⟨#[]⟩, .slice none 0 0, .int .i64 0, .int .i64 0, .int .i64 0, .int .i64 0, .bool false, .int .i64 0, .int .i64 0, .int .u64 0, .string ⟨#[]⟩, .slice none 0 0] 30)).mono ?_
  rintro e w2 ⟨k', i', u', s', a', n', c', rfl, b2⟩
  clear x0 x1 x2 x3 x4 x5 x6 x7 x8 x9
  have B3 := (HB2.out.alloc (.cells #[.int .i64 100, .int .i64 1, .int .i64 0, .int .i64 0, .bool false, .int .i64 0, .int .i64 0, .int .u64 0, .string ⟨#[]⟩, .slice none 0 0, .int .i64 0, .int .i64 0, .int .i64 0, .int .i64 0, .bool false, .int .i64 0, .int .i64 0, .int .u64 0, .string ⟨#[]⟩, .slice none 0 0] 30)).step b2
  have C3 := (HC2.out.alloc (.cells #[.int .i64 100, .int .i64 1, .int .i64 0, .int .i64 0, .bool false, .int .i64 0, .int .i64 0, .int .u64 0, .string ⟨#[]⟩, .slice none 0 0, .int .i64 0, .int .i64 0, .int .i64 0, .int .i64 0, .bool false, .int .i64 0, .int .i64 0, .int .u64 0, .string ⟨#[]⟩, .slice none 0 0] 30)).step b2
  have L3 : Below w.heap.size w w2 := (HL2.out.alloc HL2.out.size _).trans (b2.mono (by have := HL2.out.size; simp at this ⊢; omega))
  obtain ⟨x0, x1, x2, x3, x4, x5, x6, x7, x8, x9⟩ := B3.c10
  have r0 := C3.c 0
  have hl2 := B3.lt
  have hl3 := C3.lt
  have HL3 := Lib.hid L3
  clear B3 C3 L3 HL2 HB2 HC2 b2
  have HW := Lib.hid (fun w => wait_any 3 5 100 (by decide) w)
  rw [wt40] at HW
  go_wp2_with (first | (go_at_call 9; refine (again_any 100 1 0 0 false _ _ _ _ _ _).mono ?_; rintro e w3 ⟨rfl, b3⟩) | (go_at_call 15; refine (HW.out _).mono ?_; rintro e w4 ⟨rfl, b4⟩))
  go_ret
  refine ⟨rfl, ?_⟩
  have h1 := HL3.out.size
  have h3 := b3.size
  simp at h3
  exact ((HL3.out.alloc HL3.out.size _).trans (b3.mono (by simp; omega))).trans (b4.mono (by omega))
end Go.Proofs.Ytihmkjlmhjhocaa
