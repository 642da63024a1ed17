/- bit, Gives and keeps of the document, as the plain functions say; no condition but those that each theorem names. -/
import Derived.Test.YtcbplamomhimiaaDoorUw
namespace Go.Proofs.YtcbplamomhimiaaDoor
open Go.RowKit

set_option maxRecDepth 100000 in
set_option maxHeartbeats 4000000 in
theorem bit_any (k : Nat) (hk : k < 32) (w : World) : Calls Tryd.prog 32 #[.int .i64 (k : Nat)] w fun e w' => e = .returned (.int .u32 (2 ^ k : Nat)) ∧ w' = w := by
  have e1 := shl_u32 k hk
  have h0 : (0 : Int) ≤ ((k : Nat) : Int) := by omega
  have h1 : ((k : Nat) : Int) < 32 := by omega
  go_enter Tryd.func32, Tryd.ntmps32
  go_wp2
  go_ret
  refine ⟨?_, rfl⟩
  first | exact ret_i e1 | (have e2 : ((k : Nat) : Int) % 18446744073709551616 = k := by omega; simp only [e2, Int.toNat_natCast]; exact ret_i e1)
set_option maxRecDepth 100000 in
set_option maxHeartbeats 4000000 in
theorem rgives1 (cp : Nat) (hcp : cp < 1024) (on : Bool) (A B w0 w1 : Int) (wa : Option Addr) (wl wc : Nat) (w : World) :
    Calls Tryd.prog 12 #[.agg (wcs ⟨1, cp, on⟩ A B w0 w1 wa wl wc)] w fun e w' => e = .returned (.int .u32 (giv ⟨1, cp, on⟩ : Nat)) ∧ Below w.heap.size w w' := by
  have K : Hid (∀ (k : Nat), k < 32 → ∀ wx, Calls Tryd.prog 32 #[.int .i64 (k : Nat)] wx fun e w' => e = .returned (.int .u32 (2 ^ k : Nat)) ∧ w' = wx) := bit_any
  have e1 : bits .or .u32 (cp : Int) 1024 = ((cp ||| 1024 : Nat) : Int) := (u32_bits cp 1024 (by omega) (by decide)).2.1
  unfold wcs
  cases on
  all_goals
    go_enter Tryd.func12, Tryd.ntmps12
    go_wp2_with (first
      | (go_at_call 32; first | refine (K.out 4 (by decide) _).mono ?_ | refine (K.out 5 (by decide) _).mono ?_ | refine (K.out 0 (by decide) _).mono ?_ | refine (K.out 2 (by decide) _).mono ?_ | refine (K.out 9 (by decide) _).mono ?_ | refine (K.out 10 (by decide) _).mono ?_
         rintro e w2 ⟨rfl, rfl⟩))
    go_ret
    exact ⟨by first | rfl | exact ret_i e1 | exact ret_i (by kernel_rfl), below1 _ _⟩
set_option maxRecDepth 100000 in
set_option maxHeartbeats 4000000 in
theorem rgives2 (cp : Nat) (hcp : cp < 1024) (on : Bool) (A B w0 w1 : Int) (wa : Option Addr) (wl wc : Nat) (w : World) :
    Calls Tryd.prog 12 #[.agg (wcs ⟨2, cp, on⟩ A B w0 w1 wa wl wc)] w fun e w' => e = .returned (.int .u32 (giv ⟨2, cp, on⟩ : Nat)) ∧ Below w.heap.size w w' := by
  have K : Hid (∀ (k : Nat), k < 32 → ∀ wx, Calls Tryd.prog 32 #[.int .i64 (k : Nat)] wx fun e w' => e = .returned (.int .u32 (2 ^ k : Nat)) ∧ w' = wx) := bit_any
  have e1 : bits .or .u32 (cp : Int) 1024 = ((cp ||| 1024 : Nat) : Int) := (u32_bits cp 1024 (by omega) (by decide)).2.1
  unfold wcs
  cases on
  all_goals
    go_enter Tryd.func12, Tryd.ntmps12
    go_wp2_with (first
      | (go_at_call 32; first | refine (K.out 4 (by decide) _).mono ?_ | refine (K.out 5 (by decide) _).mono ?_ | refine (K.out 0 (by decide) _).mono ?_ | refine (K.out 2 (by decide) _).mono ?_ | refine (K.out 9 (by decide) _).mono ?_ | refine (K.out 10 (by decide) _).mono ?_
         rintro e w2 ⟨rfl, rfl⟩))
    go_ret
    exact ⟨by first | rfl | exact ret_i e1 | exact ret_i (by kernel_rfl), below1 _ _⟩
set_option maxRecDepth 100000 in
set_option maxHeartbeats 4000000 in
theorem rgives3 (cp : Nat) (hcp : cp < 1024) (on : Bool) (A B w0 w1 : Int) (wa : Option Addr) (wl wc : Nat) (w : World) :
    Calls Tryd.prog 12 #[.agg (wcs ⟨3, cp, on⟩ A B w0 w1 wa wl wc)] w fun e w' => e = .returned (.int .u32 (giv ⟨3, cp, on⟩ : Nat)) ∧ Below w.heap.size w w' := by
  have K : Hid (∀ (k : Nat), k < 32 → ∀ wx, Calls Tryd.prog 32 #[.int .i64 (k : Nat)] wx fun e w' => e = .returned (.int .u32 (2 ^ k : Nat)) ∧ w' = wx) := bit_any
  have e1 : bits .or .u32 (cp : Int) 1024 = ((cp ||| 1024 : Nat) : Int) := (u32_bits cp 1024 (by omega) (by decide)).2.1
  unfold wcs
  cases on
  all_goals
    go_enter Tryd.func12, Tryd.ntmps12
    go_wp2_with (first
      | (go_at_call 32; first | refine (K.out 4 (by decide) _).mono ?_ | refine (K.out 5 (by decide) _).mono ?_ | refine (K.out 0 (by decide) _).mono ?_ | refine (K.out 2 (by decide) _).mono ?_ | refine (K.out 9 (by decide) _).mono ?_ | refine (K.out 10 (by decide) _).mono ?_
         rintro e w2 ⟨rfl, rfl⟩))
    go_ret
    exact ⟨by first | rfl | exact ret_i e1 | exact ret_i (by kernel_rfl), below1 _ _⟩
set_option maxRecDepth 100000 in
set_option maxHeartbeats 4000000 in
theorem rgives4 (cp : Nat) (hcp : cp < 1024) (on : Bool) (A B w0 w1 : Int) (wa : Option Addr) (wl wc : Nat) (w : World) :
    Calls Tryd.prog 12 #[.agg (wcs ⟨4, cp, on⟩ A B w0 w1 wa wl wc)] w fun e w' => e = .returned (.int .u32 (giv ⟨4, cp, on⟩ : Nat)) ∧ Below w.heap.size w w' := by
  have K : Hid (∀ (k : Nat), k < 32 → ∀ wx, Calls Tryd.prog 32 #[.int .i64 (k : Nat)] wx fun e w' => e = .returned (.int .u32 (2 ^ k : Nat)) ∧ w' = wx) := bit_any
  have e1 : bits .or .u32 (cp : Int) 1024 = ((cp ||| 1024 : Nat) : Int) := (u32_bits cp 1024 (by omega) (by decide)).2.1
  unfold wcs
  cases on
  all_goals
    go_enter Tryd.func12, Tryd.ntmps12
    go_wp2_with (first
      | (go_at_call 32; first | refine (K.out 4 (by decide) _).mono ?_ | refine (K.out 5 (by decide) _).mono ?_ | refine (K.out 0 (by decide) _).mono ?_ | refine (K.out 2 (by decide) _).mono ?_ | refine (K.out 9 (by decide) _).mono ?_ | refine (K.out 10 (by decide) _).mono ?_
         rintro e w2 ⟨rfl, rfl⟩))
    go_ret
    exact ⟨by first | rfl | exact ret_i e1 | exact ret_i (by kernel_rfl), below1 _ _⟩
set_option maxRecDepth 100000 in
set_option maxHeartbeats 4000000 in
theorem rgives5 (cp : Nat) (hcp : cp < 1024) (on : Bool) (A B w0 w1 : Int) (wa : Option Addr) (wl wc : Nat) (w : World) :
    Calls Tryd.prog 12 #[.agg (wcs ⟨5, cp, on⟩ A B w0 w1 wa wl wc)] w fun e w' => e = .returned (.int .u32 (giv ⟨5, cp, on⟩ : Nat)) ∧ Below w.heap.size w w' := by
  have K : Hid (∀ (k : Nat), k < 32 → ∀ wx, Calls Tryd.prog 32 #[.int .i64 (k : Nat)] wx fun e w' => e = .returned (.int .u32 (2 ^ k : Nat)) ∧ w' = wx) := bit_any
  have e1 : bits .or .u32 (cp : Int) 1024 = ((cp ||| 1024 : Nat) : Int) := (u32_bits cp 1024 (by omega) (by decide)).2.1
  unfold wcs
  cases on
  all_goals
    go_enter Tryd.func12, Tryd.ntmps12
    go_wp2_with (first
      | (go_at_call 32; first | refine (K.out 4 (by decide) _).mono ?_ | refine (K.out 5 (by decide) _).mono ?_ | refine (K.out 0 (by decide) _).mono ?_ | refine (K.out 2 (by decide) _).mono ?_ | refine (K.out 9 (by decide) _).mono ?_ | refine (K.out 10 (by decide) _).mono ?_
         rintro e w2 ⟨rfl, rfl⟩))
    go_ret
    exact ⟨by first | rfl | exact ret_i e1 | exact ret_i (by kernel_rfl), below1 _ _⟩
set_option maxRecDepth 100000 in
set_option maxHeartbeats 4000000 in
theorem rgives6 (cp : Nat) (hcp : cp < 1024) (on : Bool) (A B w0 w1 : Int) (wa : Option Addr) (wl wc : Nat) (w : World) :
    Calls Tryd.prog 12 #[.agg (wcs ⟨6, cp, on⟩ A B w0 w1 wa wl wc)] w fun e w' => e = .returned (.int .u32 (giv ⟨6, cp, on⟩ : Nat)) ∧ Below w.heap.size w w' := by
  have K : Hid (∀ (k : Nat), k < 32 → ∀ wx, Calls Tryd.prog 32 #[.int .i64 (k : Nat)] wx fun e w' => e = .returned (.int .u32 (2 ^ k : Nat)) ∧ w' = wx) := bit_any
  have e1 : bits .or .u32 (cp : Int) 1024 = ((cp ||| 1024 : Nat) : Int) := (u32_bits cp 1024 (by omega) (by decide)).2.1
  unfold wcs
  cases on
  all_goals
    go_enter Tryd.func12, Tryd.ntmps12
    go_wp2_with (first
      | (go_at_call 32; first | refine (K.out 4 (by decide) _).mono ?_ | refine (K.out 5 (by decide) _).mono ?_ | refine (K.out 0 (by decide) _).mono ?_ | refine (K.out 2 (by decide) _).mono ?_ | refine (K.out 9 (by decide) _).mono ?_ | refine (K.out 10 (by decide) _).mono ?_
         rintro e w2 ⟨rfl, rfl⟩))
    go_ret
    exact ⟨by first | rfl | exact ret_i e1 | exact ret_i (by kernel_rfl), below1 _ _⟩
set_option maxRecDepth 100000 in
set_option maxHeartbeats 4000000 in
theorem rgives7 (cp : Nat) (hcp : cp < 1024) (on : Bool) (A B w0 w1 : Int) (wa : Option Addr) (wl wc : Nat) (w : World) :
    Calls Tryd.prog 12 #[.agg (wcs ⟨7, cp, on⟩ A B w0 w1 wa wl wc)] w fun e w' => e = .returned (.int .u32 (giv ⟨7, cp, on⟩ : Nat)) ∧ Below w.heap.size w w' := by
  have K : Hid (∀ (k : Nat), k < 32 → ∀ wx, Calls Tryd.prog 32 #[.int .i64 (k : Nat)] wx fun e w' => e = .returned (.int .u32 (2 ^ k : Nat)) ∧ w' = wx) := bit_any
  have e1 : bits .or .u32 (cp : Int) 1024 = ((cp ||| 1024 : Nat) : Int) := (u32_bits cp 1024 (by omega) (by decide)).2.1
  unfold wcs
  cases on
  all_goals
    go_enter Tryd.func12, Tryd.ntmps12
    go_wp2_with (first
      | (go_at_call 32; first | refine (K.out 4 (by decide) _).mono ?_ | refine (K.out 5 (by decide) _).mono ?_ | refine (K.out 0 (by decide) _).mono ?_ | refine (K.out 2 (by decide) _).mono ?_ | refine (K.out 9 (by decide) _).mono ?_ | refine (K.out 10 (by decide) _).mono ?_
         rintro e w2 ⟨rfl, rfl⟩))
    go_ret
    exact ⟨by first | rfl | exact ret_i e1 | exact ret_i (by kernel_rfl), below1 _ _⟩
set_option maxRecDepth 100000 in
set_option maxHeartbeats 4000000 in
theorem rgives8 (cp : Nat) (hcp : cp < 1024) (on : Bool) (A B w0 w1 : Int) (wa : Option Addr) (wl wc : Nat) (w : World) :
    Calls Tryd.prog 12 #[.agg (wcs ⟨8, cp, on⟩ A B w0 w1 wa wl wc)] w fun e w' => e = .returned (.int .u32 (giv ⟨8, cp, on⟩ : Nat)) ∧ Below w.heap.size w w' := by
  have K : Hid (∀ (k : Nat), k < 32 → ∀ wx, Calls Tryd.prog 32 #[.int .i64 (k : Nat)] wx fun e w' => e = .returned (.int .u32 (2 ^ k : Nat)) ∧ w' = wx) := bit_any
  have e1 : bits .or .u32 (cp : Int) 1024 = ((cp ||| 1024 : Nat) : Int) := (u32_bits cp 1024 (by omega) (by decide)).2.1
  unfold wcs
  cases on
  all_goals
    go_enter Tryd.func12, Tryd.ntmps12
    go_wp2_with (first
      | (go_at_call 32; first | refine (K.out 4 (by decide) _).mono ?_ | refine (K.out 5 (by decide) _).mono ?_ | refine (K.out 0 (by decide) _).mono ?_ | refine (K.out 2 (by decide) _).mono ?_ | refine (K.out 9 (by decide) _).mono ?_ | refine (K.out 10 (by decide) _).mono ?_
         rintro e w2 ⟨rfl, rfl⟩))
    go_ret
    exact ⟨by first | rfl | exact ret_i e1 | exact ret_i (by kernel_rfl), below1 _ _⟩
set_option maxRecDepth 100000 in
set_option maxHeartbeats 4000000 in
theorem rgives9 (cp : Nat) (hcp : cp < 1024) (on : Bool) (A B w0 w1 : Int) (wa : Option Addr) (wl wc : Nat) (w : World) :
    Calls Tryd.prog 12 #[.agg (wcs ⟨9, cp, on⟩ A B w0 w1 wa wl wc)] w fun e w' => e = .returned (.int .u32 (giv ⟨9, cp, on⟩ : Nat)) ∧ Below w.heap.size w w' := by
  have K : Hid (∀ (k : Nat), k < 32 → ∀ wx, Calls Tryd.prog 32 #[.int .i64 (k : Nat)] wx fun e w' => e = .returned (.int .u32 (2 ^ k : Nat)) ∧ w' = wx) := bit_any
  have e1 : bits .or .u32 (cp : Int) 1024 = ((cp ||| 1024 : Nat) : Int) := (u32_bits cp 1024 (by omega) (by decide)).2.1
  unfold wcs
  cases on
  all_goals
    go_enter Tryd.func12, Tryd.ntmps12
    go_wp2_with (first
      | (go_at_call 32; first | refine (K.out 4 (by decide) _).mono ?_ | refine (K.out 5 (by decide) _).mono ?_ | refine (K.out 0 (by decide) _).mono ?_ | refine (K.out 2 (by decide) _).mono ?_ | refine (K.out 9 (by decide) _).mono ?_ | refine (K.out 10 (by decide) _).mono ?_
         rintro e w2 ⟨rfl, rfl⟩))
    go_ret
    exact ⟨by first | rfl | exact ret_i e1 | exact ret_i (by kernel_rfl), below1 _ _⟩
set_option maxRecDepth 100000 in
set_option maxHeartbeats 4000000 in
theorem rgives10 (cp : Nat) (hcp : cp < 1024) (on : Bool) (A B w0 w1 : Int) (wa : Option Addr) (wl wc : Nat) (w : World) :
    Calls Tryd.prog 12 #[.agg (wcs ⟨10, cp, on⟩ A B w0 w1 wa wl wc)] w fun e w' => e = .returned (.int .u32 (giv ⟨10, cp, on⟩ : Nat)) ∧ Below w.heap.size w w' := by
  have K : Hid (∀ (k : Nat), k < 32 → ∀ wx, Calls Tryd.prog 32 #[.int .i64 (k : Nat)] wx fun e w' => e = .returned (.int .u32 (2 ^ k : Nat)) ∧ w' = wx) := bit_any
  have e1 : bits .or .u32 (cp : Int) 1024 = ((cp ||| 1024 : Nat) : Int) := (u32_bits cp 1024 (by omega) (by decide)).2.1
  unfold wcs
  cases on
  all_goals
    go_enter Tryd.func12, Tryd.ntmps12
    go_wp2_with (first
      | (go_at_call 32; first | refine (K.out 4 (by decide) _).mono ?_ | refine (K.out 5 (by decide) _).mono ?_ | refine (K.out 0 (by decide) _).mono ?_ | refine (K.out 2 (by decide) _).mono ?_ | refine (K.out 9 (by decide) _).mono ?_ | refine (K.out 10 (by decide) _).mono ?_
         rintro e w2 ⟨rfl, rfl⟩))
    go_ret
    exact ⟨by first | rfl | exact ret_i e1 | exact ret_i (by kernel_rfl), below1 _ _⟩
set_option maxRecDepth 100000 in
set_option maxHeartbeats 4000000 in
theorem rgives11 (cp : Nat) (hcp : cp < 1024) (on : Bool) (A B w0 w1 : Int) (wa : Option Addr) (wl wc : Nat) (w : World) :
    Calls Tryd.prog 12 #[.agg (wcs ⟨11, cp, on⟩ A B w0 w1 wa wl wc)] w fun e w' => e = .returned (.int .u32 (giv ⟨11, cp, on⟩ : Nat)) ∧ Below w.heap.size w w' := by
  have K : Hid (∀ (k : Nat), k < 32 → ∀ wx, Calls Tryd.prog 32 #[.int .i64 (k : Nat)] wx fun e w' => e = .returned (.int .u32 (2 ^ k : Nat)) ∧ w' = wx) := bit_any
  have e1 : bits .or .u32 (cp : Int) 1024 = ((cp ||| 1024 : Nat) : Int) := (u32_bits cp 1024 (by omega) (by decide)).2.1
  unfold wcs
  cases on
  all_goals
    go_enter Tryd.func12, Tryd.ntmps12
    go_wp2_with (first
      | (go_at_call 32; first | refine (K.out 4 (by decide) _).mono ?_ | refine (K.out 5 (by decide) _).mono ?_ | refine (K.out 0 (by decide) _).mono ?_ | refine (K.out 2 (by decide) _).mono ?_ | refine (K.out 9 (by decide) _).mono ?_ | refine (K.out 10 (by decide) _).mono ?_
         rintro e w2 ⟨rfl, rfl⟩))
    go_ret
    exact ⟨by first | rfl | exact ret_i e1 | exact ret_i (by kernel_rfl), below1 _ _⟩
set_option maxRecDepth 100000 in
set_option maxHeartbeats 4000000 in
theorem rgives12 (cp : Nat) (hcp : cp < 1024) (on : Bool) (A B w0 w1 : Int) (wa : Option Addr) (wl wc : Nat) (w : World) :
    Calls Tryd.prog 12 #[.agg (wcs ⟨12, cp, on⟩ A B w0 w1 wa wl wc)] w fun e w' => e = .returned (.int .u32 (giv ⟨12, cp, on⟩ : Nat)) ∧ Below w.heap.size w w' := by
  have K : Hid (∀ (k : Nat), k < 32 → ∀ wx, Calls Tryd.prog 32 #[.int .i64 (k : Nat)] wx fun e w' => e = .returned (.int .u32 (2 ^ k : Nat)) ∧ w' = wx) := bit_any
  have e1 : bits .or .u32 (cp : Int) 1024 = ((cp ||| 1024 : Nat) : Int) := (u32_bits cp 1024 (by omega) (by decide)).2.1
  unfold wcs
  cases on
  all_goals
    go_enter Tryd.func12, Tryd.ntmps12
    go_wp2_with (first
      | (go_at_call 32; first | refine (K.out 4 (by decide) _).mono ?_ | refine (K.out 5 (by decide) _).mono ?_ | refine (K.out 0 (by decide) _).mono ?_ | refine (K.out 2 (by decide) _).mono ?_ | refine (K.out 9 (by decide) _).mono ?_ | refine (K.out 10 (by decide) _).mono ?_
         rintro e w2 ⟨rfl, rfl⟩))
    go_ret
    exact ⟨by first | rfl | exact ret_i e1 | exact ret_i (by kernel_rfl), below1 _ _⟩
theorem rgives_any (x : Wr) (hx : okr x) (A B w0 w1 : Int) (wa : Option Addr) (wl wc : Nat) (w : World) :
    Calls Tryd.prog 12 #[.agg (wcs x A B w0 w1 wa wl wc)] w fun e w' => e = .returned (.int .u32 (giv x : Nat)) ∧ Below w.heap.size w w' := by
  obtain ⟨op, cp, on⟩ := x
  obtain ⟨h1, h2, h3⟩ := hx
  simp only at h1 h2 h3
  have : op = 1 ∨ op = 2 ∨ op = 3 ∨ op = 4 ∨ op = 5 ∨ op = 6 ∨ op = 7 ∨ op = 8 ∨ op = 9 ∨ op = 10 ∨ op = 11 ∨ op = 12 := by omega
  rcases this with rfl | rfl | rfl | rfl | rfl | rfl | rfl | rfl | rfl | rfl | rfl | rfl
  · exact rgives1 cp h3 on A B w0 w1 wa wl wc w
  · exact rgives2 cp h3 on A B w0 w1 wa wl wc w
  · exact rgives3 cp h3 on A B w0 w1 wa wl wc w
  · exact rgives4 cp h3 on A B w0 w1 wa wl wc w
  · exact rgives5 cp h3 on A B w0 w1 wa wl wc w
  · exact rgives6 cp h3 on A B w0 w1 wa wl wc w
  · exact rgives7 cp h3 on A B w0 w1 wa wl wc w
  · exact rgives8 cp h3 on A B w0 w1 wa wl wc w
  · exact rgives9 cp h3 on A B w0 w1 wa wl wc w
  · exact rgives10 cp h3 on A B w0 w1 wa wl wc w
  · exact rgives11 cp h3 on A B w0 w1 wa wl wc w
  · exact rgives12 cp h3 on A B w0 w1 wa wl wc w
set_option maxRecDepth 100000 in
set_option maxHeartbeats 4000000 in
theorem rkeeps1 (cp : Nat) (hcp : cp < 1024) (on : Bool) (A B w0 w1 : Int) (wa : Option Addr) (wl wc : Nat) (b : Nat) (hb : b < 2048) (w : World) :
    Calls Tryd.prog 34 #[.agg (wcs ⟨1, cp, on⟩ A B w0 w1 wa wl wc), .int .u32 (b : Nat)] w fun e w' => e = .returned (.int .u32 (kp ⟨1, cp, on⟩ b : Nat)) ∧ Below w.heap.size w w' := by
  have K : Hid (∀ (k : Nat), k < 32 → ∀ wx, Calls Tryd.prog 32 #[.int .i64 (k : Nat)] wx fun e w' => e = .returned (.int .u32 (2 ^ k : Nat)) ∧ w' = wx) := bit_any
  have e1 : bits .andNot .u32 (b : Int) 1024 = ((andN b 1024 : Nat) : Int) := (u32_bits b 1024 (by omega) (by decide)).2.2
  have h1 := andN_le b 1024
  have e2 : bits .andNot .u32 ((andN b 1024 : Nat) : Int) 4 = ((andN (andN b 1024) 4 : Nat) : Int) := (u32_bits (andN b 1024) 4 (by omega) (by decide)).2.2
  have e3 : bits .and .u32 ((andN b 1024 : Nat) : Int) (cp : Int) = ((andN b 1024 &&& cp : Nat) : Int) := (u32_bits (andN b 1024) cp (by omega) (by omega)).1
  unfold wcs
  go_enter Tryd.func34, Tryd.ntmps34
  go_wp2_with (first
    | (go_at_call 32; first | refine (K.out 10 (by decide) _).mono ?_ | refine (K.out 2 (by decide) _).mono ?_
       rintro e w2 ⟨rfl, rfl⟩))
  go_ret
  exact ⟨by first | rfl | exact ret_i e1 | exact ret_i (e1 ▸ e2) | exact ret_i (e1 ▸ e3), below1 _ _⟩
set_option maxRecDepth 100000 in
set_option maxHeartbeats 4000000 in
theorem rkeeps2 (cp : Nat) (hcp : cp < 1024) (on : Bool) (A B w0 w1 : Int) (wa : Option Addr) (wl wc : Nat) (b : Nat) (hb : b < 2048) (w : World) :
    Calls Tryd.prog 34 #[.agg (wcs ⟨2, cp, on⟩ A B w0 w1 wa wl wc), .int .u32 (b : Nat)] w fun e w' => e = .returned (.int .u32 (kp ⟨2, cp, on⟩ b : Nat)) ∧ Below w.heap.size w w' := by
  have K : Hid (∀ (k : Nat), k < 32 → ∀ wx, Calls Tryd.prog 32 #[.int .i64 (k : Nat)] wx fun e w' => e = .returned (.int .u32 (2 ^ k : Nat)) ∧ w' = wx) := bit_any
  have e1 : bits .andNot .u32 (b : Int) 1024 = ((andN b 1024 : Nat) : Int) := (u32_bits b 1024 (by omega) (by decide)).2.2
  have h1 := andN_le b 1024
  have e2 : bits .andNot .u32 ((andN b 1024 : Nat) : Int) 4 = ((andN (andN b 1024) 4 : Nat) : Int) := (u32_bits (andN b 1024) 4 (by omega) (by decide)).2.2
  have e3 : bits .and .u32 ((andN b 1024 : Nat) : Int) (cp : Int) = ((andN b 1024 &&& cp : Nat) : Int) := (u32_bits (andN b 1024) cp (by omega) (by omega)).1
  unfold wcs
  go_enter Tryd.func34, Tryd.ntmps34
  go_wp2_with (first
    | (go_at_call 32; first | refine (K.out 10 (by decide) _).mono ?_ | refine (K.out 2 (by decide) _).mono ?_
       rintro e w2 ⟨rfl, rfl⟩))
  go_ret
  exact ⟨by first | rfl | exact ret_i e1 | exact ret_i (e1 ▸ e2) | exact ret_i (e1 ▸ e3), below1 _ _⟩
set_option maxRecDepth 100000 in
set_option maxHeartbeats 4000000 in
theorem rkeeps3 (cp : Nat) (hcp : cp < 1024) (on : Bool) (A B w0 w1 : Int) (wa : Option Addr) (wl wc : Nat) (b : Nat) (hb : b < 2048) (w : World) :
    Calls Tryd.prog 34 #[.agg (wcs ⟨3, cp, on⟩ A B w0 w1 wa wl wc), .int .u32 (b : Nat)] w fun e w' => e = .returned (.int .u32 (kp ⟨3, cp, on⟩ b : Nat)) ∧ Below w.heap.size w w' := by
  have K : Hid (∀ (k : Nat), k < 32 → ∀ wx, Calls Tryd.prog 32 #[.int .i64 (k : Nat)] wx fun e w' => e = .returned (.int .u32 (2 ^ k : Nat)) ∧ w' = wx) := bit_any
  have e1 : bits .andNot .u32 (b : Int) 1024 = ((andN b 1024 : Nat) : Int) := (u32_bits b 1024 (by omega) (by decide)).2.2
  have h1 := andN_le b 1024
  have e2 : bits .andNot .u32 ((andN b 1024 : Nat) : Int) 4 = ((andN (andN b 1024) 4 : Nat) : Int) := (u32_bits (andN b 1024) 4 (by omega) (by decide)).2.2
  have e3 : bits .and .u32 ((andN b 1024 : Nat) : Int) (cp : Int) = ((andN b 1024 &&& cp : Nat) : Int) := (u32_bits (andN b 1024) cp (by omega) (by omega)).1
  unfold wcs
  go_enter Tryd.func34, Tryd.ntmps34
  go_wp2_with (first
    | (go_at_call 32; first | refine (K.out 10 (by decide) _).mono ?_ | refine (K.out 2 (by decide) _).mono ?_
       rintro e w2 ⟨rfl, rfl⟩))
  go_ret
  exact ⟨by first | rfl | exact ret_i e1 | exact ret_i (e1 ▸ e2) | exact ret_i (e1 ▸ e3), below1 _ _⟩
set_option maxRecDepth 100000 in
set_option maxHeartbeats 4000000 in
theorem rkeeps4 (cp : Nat) (hcp : cp < 1024) (on : Bool) (A B w0 w1 : Int) (wa : Option Addr) (wl wc : Nat) (b : Nat) (hb : b < 2048) (w : World) :
    Calls Tryd.prog 34 #[.agg (wcs ⟨4, cp, on⟩ A B w0 w1 wa wl wc), .int .u32 (b : Nat)] w fun e w' => e = .returned (.int .u32 (kp ⟨4, cp, on⟩ b : Nat)) ∧ Below w.heap.size w w' := by
  have K : Hid (∀ (k : Nat), k < 32 → ∀ wx, Calls Tryd.prog 32 #[.int .i64 (k : Nat)] wx fun e w' => e = .returned (.int .u32 (2 ^ k : Nat)) ∧ w' = wx) := bit_any
  have e1 : bits .andNot .u32 (b : Int) 1024 = ((andN b 1024 : Nat) : Int) := (u32_bits b 1024 (by omega) (by decide)).2.2
  have h1 := andN_le b 1024
  have e2 : bits .andNot .u32 ((andN b 1024 : Nat) : Int) 4 = ((andN (andN b 1024) 4 : Nat) : Int) := (u32_bits (andN b 1024) 4 (by omega) (by decide)).2.2
  have e3 : bits .and .u32 ((andN b 1024 : Nat) : Int) (cp : Int) = ((andN b 1024 &&& cp : Nat) : Int) := (u32_bits (andN b 1024) cp (by omega) (by omega)).1
  unfold wcs
  go_enter Tryd.func34, Tryd.ntmps34
  go_wp2_with (first
    | (go_at_call 32; first | refine (K.out 10 (by decide) _).mono ?_ | refine (K.out 2 (by decide) _).mono ?_
       rintro e w2 ⟨rfl, rfl⟩))
  go_ret
  exact ⟨by first | rfl | exact ret_i e1 | exact ret_i (e1 ▸ e2) | exact ret_i (e1 ▸ e3), below1 _ _⟩
set_option maxRecDepth 100000 in
set_option maxHeartbeats 4000000 in
theorem rkeeps5 (cp : Nat) (hcp : cp < 1024) (on : Bool) (A B w0 w1 : Int) (wa : Option Addr) (wl wc : Nat) (b : Nat) (hb : b < 2048) (w : World) :
    Calls Tryd.prog 34 #[.agg (wcs ⟨5, cp, on⟩ A B w0 w1 wa wl wc), .int .u32 (b : Nat)] w fun e w' => e = .returned (.int .u32 (kp ⟨5, cp, on⟩ b : Nat)) ∧ Below w.heap.size w w' := by
  have K : Hid (∀ (k : Nat), k < 32 → ∀ wx, Calls Tryd.prog 32 #[.int .i64 (k : Nat)] wx fun e w' => e = .returned (.int .u32 (2 ^ k : Nat)) ∧ w' = wx) := bit_any
  have e1 : bits .andNot .u32 (b : Int) 1024 = ((andN b 1024 : Nat) : Int) := (u32_bits b 1024 (by omega) (by decide)).2.2
  have h1 := andN_le b 1024
  have e2 : bits .andNot .u32 ((andN b 1024 : Nat) : Int) 4 = ((andN (andN b 1024) 4 : Nat) : Int) := (u32_bits (andN b 1024) 4 (by omega) (by decide)).2.2
  have e3 : bits .and .u32 ((andN b 1024 : Nat) : Int) (cp : Int) = ((andN b 1024 &&& cp : Nat) : Int) := (u32_bits (andN b 1024) cp (by omega) (by omega)).1
  unfold wcs
  go_enter Tryd.func34, Tryd.ntmps34
  go_wp2_with (first
    | (go_at_call 32; first | refine (K.out 10 (by decide) _).mono ?_ | refine (K.out 2 (by decide) _).mono ?_
       rintro e w2 ⟨rfl, rfl⟩))
  go_ret
  exact ⟨by first | rfl | exact ret_i e1 | exact ret_i (e1 ▸ e2) | exact ret_i (e1 ▸ e3), below1 _ _⟩
set_option maxRecDepth 100000 in
set_option maxHeartbeats 4000000 in
theorem rkeeps6 (cp : Nat) (hcp : cp < 1024) (on : Bool) (A B w0 w1 : Int) (wa : Option Addr) (wl wc : Nat) (b : Nat) (hb : b < 2048) (w : World) :
    Calls Tryd.prog 34 #[.agg (wcs ⟨6, cp, on⟩ A B w0 w1 wa wl wc), .int .u32 (b : Nat)] w fun e w' => e = .returned (.int .u32 (kp ⟨6, cp, on⟩ b : Nat)) ∧ Below w.heap.size w w' := by
  have K : Hid (∀ (k : Nat), k < 32 → ∀ wx, Calls Tryd.prog 32 #[.int .i64 (k : Nat)] wx fun e w' => e = .returned (.int .u32 (2 ^ k : Nat)) ∧ w' = wx) := bit_any
  have e1 : bits .andNot .u32 (b : Int) 1024 = ((andN b 1024 : Nat) : Int) := (u32_bits b 1024 (by omega) (by decide)).2.2
  have h1 := andN_le b 1024
  have e2 : bits .andNot .u32 ((andN b 1024 : Nat) : Int) 4 = ((andN (andN b 1024) 4 : Nat) : Int) := (u32_bits (andN b 1024) 4 (by omega) (by decide)).2.2
  have e3 : bits .and .u32 ((andN b 1024 : Nat) : Int) (cp : Int) = ((andN b 1024 &&& cp : Nat) : Int) := (u32_bits (andN b 1024) cp (by omega) (by omega)).1
  unfold wcs
  go_enter Tryd.func34, Tryd.ntmps34
  go_wp2_with (first
    | (go_at_call 32; first | refine (K.out 10 (by decide) _).mono ?_ | refine (K.out 2 (by decide) _).mono ?_
       rintro e w2 ⟨rfl, rfl⟩))
  go_ret
  exact ⟨by first | rfl | exact ret_i e1 | exact ret_i (e1 ▸ e2) | exact ret_i (e1 ▸ e3), below1 _ _⟩
set_option maxRecDepth 100000 in
set_option maxHeartbeats 4000000 in
theorem rkeeps7 (cp : Nat) (hcp : cp < 1024) (on : Bool) (A B w0 w1 : Int) (wa : Option Addr) (wl wc : Nat) (b : Nat) (hb : b < 2048) (w : World) :
    Calls Tryd.prog 34 #[.agg (wcs ⟨7, cp, on⟩ A B w0 w1 wa wl wc), .int .u32 (b : Nat)] w fun e w' => e = .returned (.int .u32 (kp ⟨7, cp, on⟩ b : Nat)) ∧ Below w.heap.size w w' := by
  have K : Hid (∀ (k : Nat), k < 32 → ∀ wx, Calls Tryd.prog 32 #[.int .i64 (k : Nat)] wx fun e w' => e = .returned (.int .u32 (2 ^ k : Nat)) ∧ w' = wx) := bit_any
  have e1 : bits .andNot .u32 (b : Int) 1024 = ((andN b 1024 : Nat) : Int) := (u32_bits b 1024 (by omega) (by decide)).2.2
  have h1 := andN_le b 1024
  have e2 : bits .andNot .u32 ((andN b 1024 : Nat) : Int) 4 = ((andN (andN b 1024) 4 : Nat) : Int) := (u32_bits (andN b 1024) 4 (by omega) (by decide)).2.2
  have e3 : bits .and .u32 ((andN b 1024 : Nat) : Int) (cp : Int) = ((andN b 1024 &&& cp : Nat) : Int) := (u32_bits (andN b 1024) cp (by omega) (by omega)).1
  unfold wcs
  go_enter Tryd.func34, Tryd.ntmps34
  go_wp2_with (first
    | (go_at_call 32; first | refine (K.out 10 (by decide) _).mono ?_ | refine (K.out 2 (by decide) _).mono ?_
       rintro e w2 ⟨rfl, rfl⟩))
  go_ret
  exact ⟨by first | rfl | exact ret_i e1 | exact ret_i (e1 ▸ e2) | exact ret_i (e1 ▸ e3), below1 _ _⟩
set_option maxRecDepth 100000 in
set_option maxHeartbeats 4000000 in
theorem rkeeps8 (cp : Nat) (hcp : cp < 1024) (on : Bool) (A B w0 w1 : Int) (wa : Option Addr) (wl wc : Nat) (b : Nat) (hb : b < 2048) (w : World) :
    Calls Tryd.prog 34 #[.agg (wcs ⟨8, cp, on⟩ A B w0 w1 wa wl wc), .int .u32 (b : Nat)] w fun e w' => e = .returned (.int .u32 (kp ⟨8, cp, on⟩ b : Nat)) ∧ Below w.heap.size w w' := by
  have K : Hid (∀ (k : Nat), k < 32 → ∀ wx, Calls Tryd.prog 32 #[.int .i64 (k : Nat)] wx fun e w' => e = .returned (.int .u32 (2 ^ k : Nat)) ∧ w' = wx) := bit_any
  have e1 : bits .andNot .u32 (b : Int) 1024 = ((andN b 1024 : Nat) : Int) := (u32_bits b 1024 (by omega) (by decide)).2.2
  have h1 := andN_le b 1024
  have e2 : bits .andNot .u32 ((andN b 1024 : Nat) : Int) 4 = ((andN (andN b 1024) 4 : Nat) : Int) := (u32_bits (andN b 1024) 4 (by omega) (by decide)).2.2
  have e3 : bits .and .u32 ((andN b 1024 : Nat) : Int) (cp : Int) = ((andN b 1024 &&& cp : Nat) : Int) := (u32_bits (andN b 1024) cp (by omega) (by omega)).1
  unfold wcs
  go_enter Tryd.func34, Tryd.ntmps34
  go_wp2_with (first
    | (go_at_call 32; first | refine (K.out 10 (by decide) _).mono ?_ | refine (K.out 2 (by decide) _).mono ?_
       rintro e w2 ⟨rfl, rfl⟩))
  go_ret
  exact ⟨by first | rfl | exact ret_i e1 | exact ret_i (e1 ▸ e2) | exact ret_i (e1 ▸ e3), below1 _ _⟩
set_option maxRecDepth 100000 in
set_option maxHeartbeats 4000000 in
theorem rkeeps9 (cp : Nat) (hcp : cp < 1024) (on : Bool) (A B w0 w1 : Int) (wa : Option Addr) (wl wc : Nat) (b : Nat) (hb : b < 2048) (w : World) :
    Calls Tryd.prog 34 #[.agg (wcs ⟨9, cp, on⟩ A B w0 w1 wa wl wc), .int .u32 (b : Nat)] w fun e w' => e = .returned (.int .u32 (kp ⟨9, cp, on⟩ b : Nat)) ∧ Below w.heap.size w w' := by
  have K : Hid (∀ (k : Nat), k < 32 → ∀ wx, Calls Tryd.prog 32 #[.int .i64 (k : Nat)] wx fun e w' => e = .returned (.int .u32 (2 ^ k : Nat)) ∧ w' = wx) := bit_any
  have e1 : bits .andNot .u32 (b : Int) 1024 = ((andN b 1024 : Nat) : Int) := (u32_bits b 1024 (by omega) (by decide)).2.2
  have h1 := andN_le b 1024
  have e2 : bits .andNot .u32 ((andN b 1024 : Nat) : Int) 4 = ((andN (andN b 1024) 4 : Nat) : Int) := (u32_bits (andN b 1024) 4 (by omega) (by decide)).2.2
  have e3 : bits .and .u32 ((andN b 1024 : Nat) : Int) (cp : Int) = ((andN b 1024 &&& cp : Nat) : Int) := (u32_bits (andN b 1024) cp (by omega) (by omega)).1
  unfold wcs
  go_enter Tryd.func34, Tryd.ntmps34
  go_wp2_with (first
    | (go_at_call 32; first | refine (K.out 10 (by decide) _).mono ?_ | refine (K.out 2 (by decide) _).mono ?_
       rintro e w2 ⟨rfl, rfl⟩))
  go_ret
  exact ⟨by first | rfl | exact ret_i e1 | exact ret_i (e1 ▸ e2) | exact ret_i (e1 ▸ e3), below1 _ _⟩
set_option maxRecDepth 100000 in
set_option maxHeartbeats 4000000 in
theorem rkeeps10 (cp : Nat) (hcp : cp < 1024) (on : Bool) (A B w0 w1 : Int) (wa : Option Addr) (wl wc : Nat) (b : Nat) (hb : b < 2048) (w : World) :
    Calls Tryd.prog 34 #[.agg (wcs ⟨10, cp, on⟩ A B w0 w1 wa wl wc), .int .u32 (b : Nat)] w fun e w' => e = .returned (.int .u32 (kp ⟨10, cp, on⟩ b : Nat)) ∧ Below w.heap.size w w' := by
  have K : Hid (∀ (k : Nat), k < 32 → ∀ wx, Calls Tryd.prog 32 #[.int .i64 (k : Nat)] wx fun e w' => e = .returned (.int .u32 (2 ^ k : Nat)) ∧ w' = wx) := bit_any
  have e1 : bits .andNot .u32 (b : Int) 1024 = ((andN b 1024 : Nat) : Int) := (u32_bits b 1024 (by omega) (by decide)).2.2
  have h1 := andN_le b 1024
  have e2 : bits .andNot .u32 ((andN b 1024 : Nat) : Int) 4 = ((andN (andN b 1024) 4 : Nat) : Int) := (u32_bits (andN b 1024) 4 (by omega) (by decide)).2.2
  have e3 : bits .and .u32 ((andN b 1024 : Nat) : Int) (cp : Int) = ((andN b 1024 &&& cp : Nat) : Int) := (u32_bits (andN b 1024) cp (by omega) (by omega)).1
  unfold wcs
  go_enter Tryd.func34, Tryd.ntmps34
  go_wp2_with (first
    | (go_at_call 32; first | refine (K.out 10 (by decide) _).mono ?_ | refine (K.out 2 (by decide) _).mono ?_
       rintro e w2 ⟨rfl, rfl⟩))
  go_ret
  exact ⟨by first | rfl | exact ret_i e1 | exact ret_i (e1 ▸ e2) | exact ret_i (e1 ▸ e3), below1 _ _⟩
set_option maxRecDepth 100000 in
set_option maxHeartbeats 4000000 in
theorem rkeeps11 (cp : Nat) (hcp : cp < 1024) (on : Bool) (A B w0 w1 : Int) (wa : Option Addr) (wl wc : Nat) (b : Nat) (hb : b < 2048) (w : World) :
    Calls Tryd.prog 34 #[.agg (wcs ⟨11, cp, on⟩ A B w0 w1 wa wl wc), .int .u32 (b : Nat)] w fun e w' => e = .returned (.int .u32 (kp ⟨11, cp, on⟩ b : Nat)) ∧ Below w.heap.size w w' := by
  have K : Hid (∀ (k : Nat), k < 32 → ∀ wx, Calls Tryd.prog 32 #[.int .i64 (k : Nat)] wx fun e w' => e = .returned (.int .u32 (2 ^ k : Nat)) ∧ w' = wx) := bit_any
  have e1 : bits .andNot .u32 (b : Int) 1024 = ((andN b 1024 : Nat) : Int) := (u32_bits b 1024 (by omega) (by decide)).2.2
  have h1 := andN_le b 1024
  have e2 : bits .andNot .u32 ((andN b 1024 : Nat) : Int) 4 = ((andN (andN b 1024) 4 : Nat) : Int) := (u32_bits (andN b 1024) 4 (by omega) (by decide)).2.2
  have e3 : bits .and .u32 ((andN b 1024 : Nat) : Int) (cp : Int) = ((andN b 1024 &&& cp : Nat) : Int) := (u32_bits (andN b 1024) cp (by omega) (by omega)).1
  unfold wcs
  go_enter Tryd.func34, Tryd.ntmps34
  go_wp2_with (first
    | (go_at_call 32; first | refine (K.out 10 (by decide) _).mono ?_ | refine (K.out 2 (by decide) _).mono ?_
       rintro e w2 ⟨rfl, rfl⟩))
  go_ret
  exact ⟨by first | rfl | exact ret_i e1 | exact ret_i (e1 ▸ e2) | exact ret_i (e1 ▸ e3), below1 _ _⟩
set_option maxRecDepth 100000 in
set_option maxHeartbeats 4000000 in
theorem rkeeps12 (cp : Nat) (hcp : cp < 1024) (on : Bool) (A B w0 w1 : Int) (wa : Option Addr) (wl wc : Nat) (b : Nat) (hb : b < 2048) (w : World) :
    Calls Tryd.prog 34 #[.agg (wcs ⟨12, cp, on⟩ A B w0 w1 wa wl wc), .int .u32 (b : Nat)] w fun e w' => e = .returned (.int .u32 (kp ⟨12, cp, on⟩ b : Nat)) ∧ Below w.heap.size w w' := by
  have K : Hid (∀ (k : Nat), k < 32 → ∀ wx, Calls Tryd.prog 32 #[.int .i64 (k : Nat)] wx fun e w' => e = .returned (.int .u32 (2 ^ k : Nat)) ∧ w' = wx) := bit_any
  have e1 : bits .andNot .u32 (b : Int) 1024 = ((andN b 1024 : Nat) : Int) := (u32_bits b 1024 (by omega) (by decide)).2.2
  have h1 := andN_le b 1024
  have e2 : bits .andNot .u32 ((andN b 1024 : Nat) : Int) 4 = ((andN (andN b 1024) 4 : Nat) : Int) := (u32_bits (andN b 1024) 4 (by omega) (by decide)).2.2
  have e3 : bits .and .u32 ((andN b 1024 : Nat) : Int) (cp : Int) = ((andN b 1024 &&& cp : Nat) : Int) := (u32_bits (andN b 1024) cp (by omega) (by omega)).1
  unfold wcs
  go_enter Tryd.func34, Tryd.ntmps34
  go_wp2_with (first
    | (go_at_call 32; first | refine (K.out 10 (by decide) _).mono ?_ | refine (K.out 2 (by decide) _).mono ?_
       rintro e w2 ⟨rfl, rfl⟩))
  go_ret
  exact ⟨by first | rfl | exact ret_i e1 | exact ret_i (e1 ▸ e2) | exact ret_i (e1 ▸ e3), below1 _ _⟩
theorem rkeeps_any (x : Wr) (hx : okr x) (A B w0 w1 : Int) (wa : Option Addr) (wl wc : Nat) (b : Nat) (hb : b < 2048) (w : World) :
    Calls Tryd.prog 34 #[.agg (wcs x A B w0 w1 wa wl wc), .int .u32 (b : Nat)] w fun e w' => e = .returned (.int .u32 (kp x b : Nat)) ∧ Below w.heap.size w w' := by
  obtain ⟨op, cp, on⟩ := x
  obtain ⟨h1, h2, h3⟩ := hx
  simp only at h1 h2 h3
  have : op = 1 ∨ op = 2 ∨ op = 3 ∨ op = 4 ∨ op = 5 ∨ op = 6 ∨ op = 7 ∨ op = 8 ∨ op = 9 ∨ op = 10 ∨ op = 11 ∨ op = 12 := by omega
  rcases this with rfl | rfl | rfl | rfl | rfl | rfl | rfl | rfl | rfl | rfl | rfl | rfl
  · exact rkeeps1 cp h3 on A B w0 w1 wa wl wc b hb w
  · exact rkeeps2 cp h3 on A B w0 w1 wa wl wc b hb w
  · exact rkeeps3 cp h3 on A B w0 w1 wa wl wc b hb w
  · exact rkeeps4 cp h3 on A B w0 w1 wa wl wc b hb w
  · exact rkeeps5 cp h3 on A B w0 w1 wa wl wc b hb w
  · exact rkeeps6 cp h3 on A B w0 w1 wa wl wc b hb w
  · exact rkeeps7 cp h3 on A B w0 w1 wa wl wc b hb w
  · exact rkeeps8 cp h3 on A B w0 w1 wa wl wc b hb w
  · exact rkeeps9 cp h3 on A B w0 w1 wa wl wc b hb w
  · exact rkeeps10 cp h3 on A B w0 w1 wa wl wc b hb w
  · exact rkeeps11 cp h3 on A B w0 w1 wa wl wc b hb w
  · exact rkeeps12 cp h3 on A B w0 w1 wa wl wc b hb w
end Go.Proofs.YtcbplamomhimiaaDoor
