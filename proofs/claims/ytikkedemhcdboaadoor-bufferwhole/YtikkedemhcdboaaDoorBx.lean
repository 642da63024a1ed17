/- The law's first look, chapter 16's first example: true in every world; no condition. -/
import Derived.Test.YtikkedemhcdboaaDoorBf
namespace Go.Proofs.YtikkedemhcdboaaDoor
open Go.RowKit

/-- The tree of nothing. -/
def zT : Dt.Tr 1 := ((0, 0, 0, ⟨#[]⟩, []) : Int × Int × Int × ByteArray × List (Dt.Tr 0))
def zD : Bo := ⟨0, 0, 0, ⟨#[]⟩, none, 0, 0⟩
/-- The example's message. -/
def mE : Ms := ⟨1, ⟨#[116]⟩, 1, zT, 0, 0, ⟨#[]⟩, 0, 0, 0⟩
theorem mE_rep (w : World) : Dt.Rep w mE.n zD.vs mE.t := ⟨none, 0, rfl, Nat.zero_le _, Nat.zero_le _, Nat.zero_le _, .inl rfl⟩
theorem mE_sm (l : List Ms) (h : ∀ x ∈ l, x = mE) : Sm l := fun x hx => by rw [h x hx]; decide

set_option maxRecDepth 100000 in
set_option maxHeartbeats 4000000 in
theorem awake_any (w : World) : Calls Tryd.prog 8 #[] w fun e w' => e = .returned (.bool true) ∧ Below w.heap.size w w' := by
  have M0 : Bk (w.alloc (.cells #[.int .i64 1, .string ⟨#[116]⟩, .int .i64 0, .int .i64 0, .int .u64 0, .string ⟨#[]⟩, .slice none 0 0, .int .i64 0, .int .i64 0, .string ⟨#[]⟩, .int .i64 0, .int .i64 0, .int .i64 0] 30)) w.heap.size #[.int .i64 1, .string ⟨#[116]⟩, .int .i64 0, .int .i64 0, .int .u64 0, .string ⟨#[]⟩, .slice none 0 0, .int .i64 0, .int .i64 0, .string ⟨#[]⟩, .int .i64 0, .int .i64 0, .int .i64 0] 30 := Bk.new w _ _
  have B0 := below1 w (.cells #[.int .i64 1, .string ⟨#[116]⟩, .int .i64 0, .int .i64 0, .int .u64 0, .string ⟨#[]⟩, .slice none 0 0, .int .i64 0, .int .i64 0, .string ⟨#[]⟩, .int .i64 0, .int .i64 0, .int .i64 0] 30)
  have P1 : Hid (∀ wx : World, Calls Tryd.prog 10 #[.agg #[.slice none 0 0, .int .i64 0], .int .i64 2, .int .i64 5, .agg #[.int .i64 1, .string ⟨#[116]⟩, .int .i64 0, .int .i64 0, .int .u64 0, .string ⟨#[]⟩, .slice none 0 0, .int .i64 0, .int .i64 0, .string ⟨#[]⟩, .int .i64 0, .int .i64 0, .int .i64 0]] wx (BfP wx [mE] 5 [])) := fun wx => (put_any [] mE zD none 0 0 2 5 wx (by decide) (.inl rfl) (mE_rep wx) (mE_sm _ (by simp))).mono fun e w' h => (h.2 (by decide)).1 rfl
  have P2 : Hid (∀ (wx : World) (a : Option Addr) (c : Nat), Mw wx a [mE] → Calls Tryd.prog 10 #[.agg #[.slice a 1 c, .int .i64 5], .int .i64 2, .int .i64 7, .agg #[.int .i64 1, .string ⟨#[116]⟩, .int .i64 0, .int .i64 0, .int .u64 0, .string ⟨#[]⟩, .slice none 0 0, .int .i64 0, .int .i64 0, .string ⟨#[]⟩, .int .i64 0, .int .i64 0, .int .i64 0]] wx (BfP wx [] 0 [mE, mE])) := fun wx a c hm => (put_any [mE] mE zD a c 5 2 7 wx (by decide) hm (mE_rep wx) (mE_sm _ (by simp))).mono fun e w' h => h.1 (by decide)
  have T1 : Hid (∀ (wx : World) (a : Option Addr) (c : Nat), Mw wx a [mE] → Calls Tryd.prog 16 #[.agg #[.slice a 1 c, .int .i64 5], .int .i64 10, .int .i64 15] wx (BfP wx [] 0 [mE])) := fun wx a c hm => tick_go [mE] a c 5 10 15 wx (by decide) hm (mE_sm _ (by simp)) (by decide) (by decide) (by decide) (by decide) (by decide) (by decide)
  have N1 : Hid (∀ (wx : World) (a : Option Addr) (c : Nat), Calls Tryd.prog 19 #[.agg #[.slice a 1 c, .int .i64 5], .int .i64 10] wx fun e w' => e = .returned (.tuple #[.int .i64 15, .bool true]) ∧ Below wx.heap.size wx w') := fun wx a c => next_yes 1 a c 5 10 wx (by decide) (by decide) (by decide) (by decide) (by decide)
  go_enter Tryd.func8, Tryd.ntmps8
  go_wp2_with fail
  refine (P1.out _).mono ?_
  rintro e w1 ⟨a1, c1, a2, c2, rfl, -, n2, m1, -, b1⟩
  obtain ⟨rfl, rfl⟩ := n2 rfl
  have M1 := M0.step b1
  have B1 := B0.trans (b1.mono B0.size)
  have S1 := Bk.new w1 #[.slice a1 1 c1, .int .i64 5] 24
  have e1 := below1 w1 (.cells #[.slice a1 1 c1, .int .i64 5] 24)
  have M2 := M1.step e1
  have B2 := B1.trans (e1.mono B1.size)
  have R2 : Hid (Mw (w1.alloc (.cells #[.slice a1 1 c1, .int .i64 5] 24)) a1 [mE]) := Mw.below m1.mz.mw e1
  obtain ⟨m0, m1', m2, m3, m4, m5, m6, m7, m8, m9, m10, m11, m12⟩ := M2.c13
  clear M0 M1 B0 B1 m1 b1 e1 P1 n2
  go_wp2_with fail
  refine (P2.out _ _ _ R2.out).mono ?_
  rintro e w3 ⟨a3, c3, a4, c4, rfl, n3, -, -, -, b3⟩
  obtain ⟨rfl, rfl⟩ := n3 rfl
  have S3 := S1.step b3
  have B3 := B2.trans (b3.mono B2.size)
  have R3 := Lib.hid (Mw.below R2.out b3)
  have e3 := below1 w3 (.cells #[.slice none 0 0, .int .i64 0] 24)
  have U4 := Bk.new w3 #[.slice none 0 0, .int .i64 0] 24
  have S4 := S3.step e3
  have B4 := B3.trans (e3.mono B3.size)
  have R4 := Lib.hid (Mw.below R3.out e3)
  obtain ⟨s0, s1⟩ := S4.c2
  clear S1 S3 B2 B3 R2 R3 b3 e3 M2 m0 m1' m2 m3 m4 m5 m6 m7 m8 m9 m10 m11 m12 P2 n3
  go_wp2_with fail
  refine (T1.out _ _ _ R4.out).mono ?_
  rintro e w5 ⟨a5, c5, a6, c6, rfl, n5, -, -, -, b5⟩
  obtain ⟨rfl, rfl⟩ := n5 rfl
  have S5 := S4.step b5
  have U5 := U4.step b5
  have B5 := B4.trans (b5.mono B4.size)
  have e5 := below1 w5 (.cells #[.slice none 0 0, .int .i64 0] 24)
  have S6 := S5.step e5
  have U6 := U5.step e5
  have B6 := B5.trans (e5.mono B5.size)
  clear s0 s1
  obtain ⟨s0, s1⟩ := S6.c2
  clear S4 U4 B4 R4 b5 e5 S5 U5 B5 T1 n5
  go_wp2_with fail
  refine (N1.out _ _ _).mono ?_
  rintro e w7 ⟨rfl, b7⟩
  have S7 := S6.step b7
  have U7 := U6.step b7
  have B7 := B6.trans (b7.mono B6.size)
  clear s0 s1
  obtain ⟨s0, s1⟩ := S7.c2
  obtain ⟨t0, t1⟩ := U7.c2
  clear S6 U6 B6 b7 N1
  go_wp2_with fail
  go_ret
  exact ⟨rfl, B7⟩
end Go.Proofs.YtikkedemhcdboaaDoor
