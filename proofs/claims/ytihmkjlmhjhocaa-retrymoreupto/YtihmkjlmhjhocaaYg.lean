/- Whether all bodies of a row are valid; the conditions: the row in memory, what each body answers. -/
import Derived.Test.YtihmkjlmhjhocaaYf
import Derived.Test.YtihmkjlmhjhocaaDRv
import Derived.Test.YtihmkjlmhjhocaaXVc
namespace Go.Proofs.Ytihmkjlmhjhocaa
open Go.RowKit

/-- What Valid answers of each body of a row, wherever it is asked. -/
def VbOf (w : World) (zs : List Re) (vb : Re → Bool) : Prop := ∀ x ∈ zs, ∀ wx, Below w.heap.size w wx → Calls Try.prog 7 #[.agg #[.int .i64 x.k, .int .i64 x.i, .int .u64 x.u, .string x.s, .slice x.a x.n x.c]] wx fun e w' => e = .returned (.bool (vb x)) ∧ Below wx.heap.size wx w'

set_option maxRecDepth 100000 in
set_option maxHeartbeats 2000000 in
theorem valid_any (ad : Option Addr) (zs : List Re) (cap : Nat) (vb : Re → Bool) (w : World) (hreach : zs.length ≤ 9223372036854775807) (hI : Rrow w ad zs) (hV : VbOf w zs vb) (wx : World) (hx : Below w.heap.size w wx) :
    Calls Try.prog 11 #[.slice ad zs.length cap] wx fun e w' => e = .returned (.bool (zs.all vb)) ∧ Below wx.heap.size wx w' := by
  have HV := Lib.hid hV
  have HI := Lib.hid hI
  have HX := Lib.hid hx
  have hsx := hx.size
  clear hV hI hx
  go_enter Try.func11, Try.ntmps11
  go_wp2_with fail
  go_loopw [3] (fun si wr => ∃ (j : Nat), si = .int .i64 j ∧ j ≤ zs.length ∧ (∀ q y, q < j → zs[q]? = some y → vb y = true) ∧ Below wx.heap.size wx wr) (fun si _ => zs.length - (intOf si).toNat)
  case atStart => exact ⟨0, rfl, Nat.zero_le _, fun q y hq => absurd hq (Nat.not_lt_zero _), Below.refl _ _⟩
  case round =>
    obtain ⟨j, rfl, hj, ha, hb⟩ := hrel
    have HA := Lib.hid ha
    clear ha
    by_cases hlt : j < zs.length
    · rcases HI.out with h | ⟨b, o, rfl, h1, h2⟩
      · rw [h] at hlt; simp at hlt
      obtain ⟨y, hy⟩ : ∃ y, zs[j]? = some y := ⟨_, List.getElem?_eq_getElem hlt⟩
      have hm : y ∈ zs := List.mem_of_getElem? hy
      have hbw : Below w.heap.size w wr := HX.out.trans (hb.mono hsx)
      obtain ⟨x0, x1, x2, x3, x4, x5, x6, x7, x8, x9⟩ := (h2 j y hy).below hbw h1
      have HC := Lib.hid (HV.out y hm wr hbw)
      have j0 : (0 : Int) ≤ (j : Int) := by omega
      have j1 : (j : Int) < (zs.length : Int) := by omega
      have HY := Lib.hid hy
      clear h2 HI HV hy hbw x0 x1 x2 x3 x4
      cases hvb : vb y with
      | true =>
        rw [hvb] at HC
        go_wp2_with (go_at_call 7; refine HC.out.mono ?_; rintro e w1 ⟨rfl, b1⟩)
        refine ⟨⟨j + 1, by go_num, by omega, fun q z hq hz => ?_, hb.trans (b1.mono hb.size)⟩, by simp [intOf]; omega⟩
        by_cases e : q = j
        · subst e
          have := HY.out
          rw [hz] at this
          cases this
          exact hvb
        · exact HA.out q z (by omega) hz
      | false =>
        rw [hvb] at HC
        go_wp2_with (go_at_call 7; refine HC.out.mono ?_; rintro e w1 ⟨rfl, b1⟩)
        go_ret
        refine ⟨?_, hb.trans (b1.mono hb.size)⟩
        have e : zs.all vb = false := by
          cases h : zs.all vb with
          | false => rfl
          | true => have := List.all_eq_true.1 h y hm; rw [hvb] at this; cases this
        rw [e]
        rfl
    · have e : zs.all vb = true := List.all_eq_true.2 fun y hy => by
        obtain ⟨q, hq, e⟩ := List.mem_iff_getElem.1 hy
        exact HA.out q y (by omega) (by rw [List.getElem?_eq_getElem hq, e])
      go_wp2_with fail
      go_ret
      exact ⟨by rw [e]; rfl, hb⟩

theorem valid_pts {n : Nat} {t : Dt.Tr n} (h : Dt.vB n t = true) : Dt.rgt n t = true ∧ (Dt.pts n t).1 ≤ 4096 := by
  have S := Dt.say 16 n t 1 4096 (by decide) (by decide) (by decide)
  obtain ⟨h1, h2, -⟩ := S.down h
  obtain ⟨h3, -, h4, -, -⟩ := S.fit h2
  refine ⟨h1, ?_⟩
  rw [h3]; exact h4

/-- A body is a tree. -/
def Bt (w : World) (x : Re) (n : Nat) (t : Dt.Tr n) : Prop := Dt.Rep w n [.int .i64 x.k, .int .i64 x.i, .int .u64 x.u, .string x.s, .slice x.a x.n x.c] t
/-- Of each row: what Valid answers, and a tree of a size that can be where it says yes. -/
theorem vb_of {w : World} {zs : List Re} (h : ∀ x ∈ zs, ∃ (n : Nat) (t : Dt.Tr n), Bt w x n t) : ∃ vb, VbOf w zs vb ∧ ∀ x ∈ zs, vb x = true → ∃ (n : Nat) (t : Dt.Tr n), Bt w x n t ∧ (Dt.pts n t).1 ≤ 4096 := by
  have H : ∀ x : Re, ∃ b : Bool, x ∈ zs → (∀ wx, Below w.heap.size w wx → Calls Try.prog 7 #[.agg #[.int .i64 x.k, .int .i64 x.i, .int .u64 x.u, .string x.s, .slice x.a x.n x.c]] wx fun e w' => e = .returned (.bool b) ∧ Below wx.heap.size wx w') ∧ (b = true → ∃ (n : Nat) (t : Dt.Tr n), Bt w x n t ∧ (Dt.pts n t).1 ≤ 4096) := fun x => by
    by_cases hx : x ∈ zs
    · obtain ⟨n, t, R⟩ := h x hx
      exact ⟨Dt.vB n t, fun _ => ⟨fun wx hw => Dt.refValid n t _ _ _ _ _ wx (Dt.Rep.below hw n _ _ R), fun hv => ⟨n, t, R, (valid_pts hv).2⟩⟩⟩
    · exact ⟨false, fun h => absurd h hx⟩
  obtain ⟨vb, hvb⟩ := Classical.skolem.1 H
  exact ⟨vb, fun x hx => (hvb x hx).1, fun x hx => (hvb x hx).2⟩

/-- What Run tells of the last one's body: its tree, in new memory from L on. -/
def Nt (w : World) (x : Re) (k i u : Int) (s : ByteArray) (a : Option Addr) (n c L : Nat) (w' : World) : Prop := ∃ (m : Nat) (t : Dt.Tr m), Bt w x m t ∧ Dt.Rf (fun g => L ≤ g ∧ g < w'.heap.size) w' m [.int .i64 k, .int .i64 i, .int .u64 u, .string s, .slice a n c] t
/-- The tree of nothing. -/
def zT : Dt.Tr 1 := ((0, 0, 0, ⟨#[]⟩, []) : Int × Int × Int × ByteArray × List (Dt.Tr 0))
theorem zero_bt (w : World) : Bt w Re.zero 1 zT := ⟨none, 0, rfl, Nat.zero_le _, Nat.zero_le _, Nat.zero_le _, .inl rfl⟩

theorem run_valid (tries : Int) (ad : Option Addr) (zs : List Re) (cap : Nat) (w : World) (hreach : zs.length ≤ 9223372036854775807) (hcap : zs.length ≤ cap) (hI : Rrow w ad zs) (hB : ∀ x ∈ zs, ∃ (n : Nat) (t : Dt.Tr n), Bt w x n t ∧ (Dt.pts n t).1 ≤ 4096) (wx : World) (hx : Below w.heap.size w wx) :
    Calls Try.prog 12 #[.int .i64 tries, .slice ad zs.length cap] wx fun e w' => ∃ m x k i u s a n c L, Md (most tries zs.length) zs m x ∧ e = .returned (.tuple #[.agg #[.int .i64 x.er, .int .i64 x.co, .int .i64 x.pk, .int .i64 x.pn, .bool x.has, .int .i64 k, .int .i64 i, .int .u64 u, .string s, .slice a n c], .int .i64 m]) ∧ wx.heap.size ≤ L ∧ Nt w x k i u s a n c L w' ∧ Below wx.heap.size wx w' := by
  refine run_any tries ad zs cap wx hreach hcap ?_ (Nt w) (fun x k i u s a n c L w' w'' ⟨m, t, h1, h2⟩ hs hg => ⟨m, t, h1, Dt.Rf.to (fun g h => ⟨⟨h.1, by have := h.2; omega⟩, hg g h.1 h.2⟩) _ _ _ h2⟩) fun x hxm wy hy => ?_
  · rcases hI with h | ⟨b, o, e, h1, h2⟩
    · exact .inl h
    · exact .inr ⟨b, o, e, Nat.lt_of_lt_of_le h1 hx.size, fun j x hj => (h2 j x hj).below hx h1⟩
  · obtain ⟨m, t, R, hp⟩ : ∃ (n : Nat) (t : Dt.Tr n), Bt w x n t ∧ (Dt.pts n t).1 ≤ 4096 := by
      rcases hxm with h | rfl
      · exact hB x h
      · exact ⟨1, zT, zero_bt w, by decide⟩
    have hwy : Below w.heap.size w wy := hx.trans (hy.mono hx.size)
    exact (Dt.vcopy m t _ _ _ _ _ wy (Dt.Rep.below hwy m _ _ R) hp).mono fun e w' ⟨k, i, u, s, a, n, c, he, hr, hb⟩ => ⟨k, i, u, s, a, n, c, he, ⟨m, t, R, hr⟩, hb⟩
end Go.Proofs.Ytihmkjlmhjhocaa
