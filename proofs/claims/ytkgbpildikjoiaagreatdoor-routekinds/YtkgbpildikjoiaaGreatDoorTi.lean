/- strings.Cut at the slash, the iterator over a text's levels, and what it yields; no condition but those that each theorem names. -/
import Derived.RangeFuncBox
import Derived.RangeFuncNested
import Derived.RangeFuncBound
import Derived.RangeFuncCalls
import Derived.RangeFuncLeaves
import Derived.Shelf.Abstract
import Derived.Shelf.RegionOpen
import Derived.WalkKit
import Derived.OwnWalkIn
import Derived.TacticsInMore
import Derived.LoopNIn
import Derived.LoopIn
import Derived.Maps.AppendAt
import Derived.Test.YtkgbpildikjoiaaGreatDoorShelf
import Derived.Test.YtkgbpildikjoiaaGreatDoorTb
namespace Go.Proofs.YtkgbpildikjoiaaGreatDoor
open Go.RowKit Tp Go.Shelf

attribute [local go_sem] Oper.semAt_some

theorem idx_cases (c : UInt8) : ∀ l : Bs, (c ∉ l ∧ Lib.indexByte l c = -1) ∨ ∃ a b, l = a ++ c :: b ∧ c ∉ a ∧ Lib.indexByte l c = (a.length : Int)
  | [] => .inl ⟨by simp, rfl⟩
  | x :: l => by
    by_cases hx : x = c
    · subst hx
      exact .inr ⟨[], l, rfl, by simp, by simp [Lib.indexByte]⟩
    · have hx' : (x == c) = false := by simpa using hx
      rcases idx_cases c l with ⟨h1, h2⟩ | ⟨a, b, rfl, h2, h3⟩
      · refine .inl ⟨?_, by simp [Lib.indexByte, hx', h2]⟩
        intro h
        rcases List.mem_cons.1 h with e | h
        · exact hx e.symm
        · exact h1 h
      · refine .inr ⟨x :: a, b, rfl, ?_, ?_⟩
        · intro h
          rcases List.mem_cons.1 h with e | h
          · exact hx e.symm
          · exact h2 h
        · rw [Lib.indexByte, hx', h3]
          have : ((a.length : Int) == -1) = false := by simp
          simp [this]

theorem tl_ext (s : ByteArray) (i j : Nat) : tl (s.extract i j) = ((tl s).drop i).take (j - i) := by
  rw [tl_data, tl_data, ByteArray.data_extract, Array.toList_extract, List.extract_eq_take_drop]

/-- What strings.Cut hands back at the slash. -/
def Cuts (s a b : ByteArray) (f : Bool) : Prop := ((47 : UInt8) ∉ tl s ∧ a = s ∧ b = ⟨#[]⟩ ∧ f = false) ∨ ((47 : UInt8) ∉ tl a ∧ tl s = tl a ++ 47 :: tl b ∧ f = true)

set_option maxRecDepth 100000 in
set_option maxHeartbeats 1000000 in
theorem cutl_any (s : ByteArray) (w : World) (hs : s.size ≤ 1048577) :
    Calls Tryz.prog 117 #[.string s, .string ⟨#[47]⟩] w fun e w' => ∃ a b f, e = .returned (.tuple #[.string a, .string b, .bool f]) ∧ Cuts s a b f ∧ ∃ q, w' = w.drewN q := by
  rcases idx_cases 47 (tl s) with ⟨h1, h2⟩ | ⟨a, b, h1, h2, h3⟩
  · rw [tl_data] at h2
    have c1 : ¬ ((0 : Int) ≤ -1) := by decide
    go_enter Tryz.func117, Tryz.ntmps117
    go_wp2_with (go_at_call 119; refine (Tryz.stringslite_Index_one _ _ _).mono ?_; rintro e w' ⟨rfl, rfl⟩; rw [h2])
    go_ret3
    exact ⟨_, _, _, rfl, .inl ⟨h1, rfl, rfl, rfl⟩, 0, rfl⟩
  · rw [tl_data] at h3
    have hl := congrArg List.length h1
    rw [tl_size, List.length_append, List.length_cons] at hl
    have c1 : (0 : Int) ≤ (a.length : Int) := by omega
    have c2 : (a.length : Int) ≤ (s.size : Int) := by omega
    have c3 : (0 : Int) ≤ (a.length : Int) + 1 := by omega
    have c4 : (a.length : Int) + 1 ≤ (s.size : Int) := by omega
    go_enter Tryz.func117, Tryz.ntmps117
    go_wp2_with (go_at_call 119; refine (Tryz.stringslite_Index_one _ _ _).mono ?_; rintro e w' ⟨rfl, rfl⟩; rw [h3])
    go_quiet (fail)
    go_wp2
    go_ret3
    refine ⟨_, _, _, rfl, .inr ⟨?_, ?_, rfl⟩, nq, rfl⟩
    · rw [tl_ext, h1]; simpa using h2
    · rw [tl_ext, tl_ext, h1, show List.length a + (b.length + 1) - (List.length a + 1) = b.length by omega]; simp

set_option maxHeartbeats 1000000 in
theorem cut_any (s : ByteArray) (w : World) (hs : s.size ≤ 1048577) :
    Calls Tryz.prog 111 #[.string s, .string ⟨#[47]⟩] w fun e w' => ∃ a b f, e = .returned (.tuple #[.string a, .string b, .bool f]) ∧ Cuts s a b f ∧ ∃ q, w' = w.drewN q := by
  go_enter Tryz.func111, Tryz.ntmps111
  go_wp2_with (go_at_call 117; refine (cutl_any s _ hs).mono ?_; rintro e w' ⟨a, b, f, rfl, hc, q, rfl⟩)
  go_ret3
  exact ⟨_, _, _, rfl, hc, q, rfl⟩

theorem Cuts.lvs {s a b : ByteArray} {f : Bool} (h : Cuts s a b f) : lvs (tl s) = tl a :: (if f then lvs (tl b) else []) := by
  rcases h with ⟨h1, rfl, rfl, rfl⟩ | ⟨h1, h2, rfl⟩
  · rw [lvs_flat _ h1]; rfl
  · rw [h2, lvs_cut _ _ h1]; rfl
theorem Cuts.size {s a b : ByteArray} {f : Bool} (h : Cuts s a b f) : b.size ≤ s.size ∧ (f = true → b.size < s.size) := by
  rcases h with ⟨_, rfl, rfl, rfl⟩ | ⟨_, h2, rfl⟩
  · exact ⟨Nat.zero_le _, fun h => by cases h⟩
  · have := congrArg List.length h2
    rw [List.length_append, List.length_cons, tl_size, tl_size, tl_size] at this
    exact ⟨by omega, fun _ => by omega⟩

theorem Cuts.size1 {s a b : ByteArray} {f : Bool} (h : Cuts s a b f) : a.size ≤ s.size := by
  rcases h with ⟨_, rfl, rfl, rfl⟩ | ⟨_, h2, rfl⟩
  · exact Nat.le_refl _
  · have := congrArg List.length h2
    rw [List.length_append, List.length_cons, tl_size, tl_size, tl_size] at this
    omega

/-- How far the iterator has to go. -/
def leftOf : Value → Value → Nat
  | .string r, .bool true => r.size + 1
  | _, _ => 0

set_option maxRecDepth 100000 in
set_option maxHeartbeats 2000000 in
/-- The iterator, at whatever loop: it yields the levels in their order. -/
theorem each1_in (F : Fence) (n : Nat) (hw : F = Fence.wide) (hn : 1 ≤ n) (l Bn n₀ : Nat) (s : ByteArray) (hs : s.size ≤ 1048577) (J Jx : List ByteArray → World → Prop) (W : World)
    (hJd : ∀ pre A q, J pre A → J pre (A.drewN q))
    (hY : ∀ pre x W, x.size ≤ 1048577 → J pre W → pre.length < (lvs (tl s)).length → YieldAt F (n - 1) Tryz.prog l #[.string x] W fun e W' =>
      (e = .returned (.bool true) ∧ J (pre ++ [x]) W' ∧ Below n₀ W W') ∨ (e = .returned (.bool false) ∧ Jx (pre ++ [x]) W'))
    (hBn : W.cell? ⟨Bn, 0, none⟩ = some (.string s)) (h0 : J [] W) :
    CallsIn F n Tryz.prog 110 #[.func (.yield l) #[] #[], .pointer (some ⟨Bn, 0, none⟩)] W fun e W' => (∃ v, e = .returned v) ∧
      ((∃ ys, ys = (lvs (tl s)).map bs ∧ J ys W') ∨ (∃ pre, pre <+: (lvs (tl s)).map bs ∧ Jx pre W')) := by
  subst hw
  refine callsIn_of_wp Tryz.func110 rfl trivial ?_ rfl
  simp only [Tryz.ntmps110, List.size_toArray, List.length_cons, List.length_nil, Nat.reduceAdd, Nat.reduceSub, Array.replicate_succ, Array.replicate_zero, List.push_toArray, List.append_toArray, List.nil_append, List.cons_append]
  gi_wp2
  gi_loopw [3, 4] (fun p m wr => ∃ (pre : List ByteArray) (r : ByteArray) (f : Bool), p = .string r ∧ m = .bool f ∧ (lvs (tl s)).map bs = pre ++ (if f then (lvs (tl r)).map bs else []) ∧ r.size ≤ 1048577 ∧ J pre wr)
    (fun p m _ => leftOf p m)
  case atStart =>
    exact ⟨[], s, true, rfl, rfl, rfl, hs, h0⟩
  case round =>
    obtain ⟨pre, r, f, rfl, rfl, hx, hr, hJs⟩ := hrel
    cases f with
    | false =>
      gi_wp2
      go_end0
      exact ⟨⟨_, rfl⟩, .inl ⟨pre, by simpa using hx.symm, hJs⟩⟩
    | true =>
      have hx2 : (lvs (tl s)).map bs = pre ++ (lvs (tl r)).map bs := hx
      have hlen : pre.length < (lvs (tl s)).length := by
        have h1 := congrArg List.length hx2
        rw [List.length_append, List.length_map, List.length_map] at h1
        have := List.length_pos_iff.2 (lvs_ne (tl r))
        omega
      gi_wp2_with (refine ⟨trivial, ?_⟩; gi_at_call 111; refine (callsIn_wide.2 (cut_any r _ hr)).mono ?_; rintro e w' ⟨a, b, f, rfl, hc, q, rfl⟩; obtain ⟨fn, tmps, assign, body, hy, hR⟩ := hY pre a (wr.drewN q) (Nat.le_trans hc.size1 hr) (hJd _ _ _ hJs) hlen)
      have hlv := hc.lvs
      have hsz := hc.size
      rw [hlv, List.map_cons, bs_tl] at hx2
      refine hR.mono ?_
      rintro e W3 (⟨rfl, hJ3, hk3⟩ | ⟨rfl, hJx3⟩)
      · gi_wp2
        go_roundw
        case rel => exact ⟨pre ++ [a], b, f, rfl, rfl, by rw [hx2]; cases f <;> simp, by omega, hJ3⟩
        case measure =>
          cases f with
          | false => simp [leftOf]
          | true => have := hsz.2 rfl; simp [leftOf]; omega
      · gi_wp2
        refine bodyPost_ret (results_none rfl _ _ _) rfl ?_
        exact ⟨⟨_, rfl⟩, .inr ⟨pre ++ [a], ⟨_, by rw [hx2, List.append_assoc]; rfl⟩, hJx3⟩⟩

theorem grown_drewN (w : World) (n : Nat) (row : Option Nat) : w.grownBy (w.drewN n) row := by
  induction n with
  | zero => exact World.grownBy.refl w row
  | succ n ih => exact ⟨ih.os, ih.tape, ih.output, ih.size, ih.block⟩

set_option maxHeartbeats 1000000 in
/-- eachLevel: the text is boxed; the function value has the box. -/
theorem each_in (F : Fence) (n : Nat) (hw : F = Fence.wide) (s : ByteArray) (w : World) :
    CallsIn F n Tryz.prog 99 #[.string s] w fun e w' => e = .returned (.func (.func 110) #[] #[.pointer (some ⟨w.heap.size, 0, none⟩)]) ∧ w' = w.alloc (.cells #[.string s] 9) := by
  subst hw
  refine callsIn_of_wp Tryz.func99 rfl trivial ?_ rfl
  simp only [Tryz.ntmps99, List.size_toArray, List.length_cons, List.length_nil, Nat.reduceAdd, Nat.reduceSub, Array.replicate_succ, Array.replicate_zero, List.push_toArray, List.append_toArray, List.nil_append, List.cons_append]
  gi_wp2
  go_ret
  exact ⟨rfl, rfl⟩

theorem each_stops (n : Nat) (hn : 1 ≤ n) (Bn n₀ : Nat) (s : ByteArray) (hs : s.size ≤ 1048577) (w : World) (hBn : Bn < w.heap.size) (hc : w.cell? ⟨Bn, 0, none⟩ = some (.string s)) :
    SeqStopsK Fence.wide n Tryz.prog 110 #[.pointer (some ⟨Bn, 0, none⟩)] (fun x : ByteArray => #[Value.string x]) (Below n₀) (fun ys => ys = (lvs (tl s)).map bs) (fun pre => pre <+: (lvs (tl s)).map bs) (lvs (tl s)).length w := fun l J Jx W hW hJ hJx hY h0 =>
  each1_in Fence.wide n rfl hn l Bn n₀ s hs J Jx W (fun pre A q h => hJ pre A _ none h (grown_drewN A q none) (fun r e => by cases e)) (fun pre x W _ => hY pre x W) ((hW.cell (p := ⟨Bn, 0, none⟩) hBn).trans hc) h0

/-- A text of bounded length. -/
abbrev Lv := { x : ByteArray // x.size ≤ 1048577 }

/-- The same, where the loop is told that each level is of bounded length. -/
theorem each_stops2 (n : Nat) (hn : 1 ≤ n) (Bn n₀ : Nat) (s : ByteArray) (hs : s.size ≤ 1048577) (w : World) (hBn : Bn < w.heap.size) (hc : w.cell? ⟨Bn, 0, none⟩ = some (.string s)) :
    SeqStopsK Fence.wide n Tryz.prog 110 #[.pointer (some ⟨Bn, 0, none⟩)] (fun x : Lv => #[Value.string x.1]) (Below n₀) (fun ys => ys.map (·.1) = (lvs (tl s)).map bs) (fun pre => pre.map (·.1) <+: (lvs (tl s)).map bs) (lvs (tl s)).length w := fun l J Jx W hW hJ hJx hY h0 => by
  refine (each1_in Fence.wide n rfl hn l Bn n₀ s hs (fun pre W => ∃ p : List Lv, p.map (·.1) = pre ∧ J p W) (fun pre W => ∃ p : List Lv, p.map (·.1) = pre ∧ Jx p W) W ?_ ?_ ((hW.cell (p := ⟨Bn, 0, none⟩) hBn).trans hc) ⟨[], rfl, h0⟩).mono ?_
  · rintro pre A q ⟨p, hp, h⟩
    exact ⟨p, hp, hJ p A _ none h (grown_drewN A q none) (fun r e => by cases e)⟩
  · rintro pre x W hx ⟨p, rfl, h⟩ hl
    refine (hY p ⟨x, hx⟩ W h (by simpa using hl)).mono ?_
    rintro e W' (⟨rfl, h1, h2⟩ | ⟨rfl, h1⟩)
    · exact .inl ⟨rfl, ⟨p ++ [⟨x, hx⟩], by simp, h1⟩, h2⟩
    · exact .inr ⟨rfl, ⟨p ++ [⟨x, hx⟩], by simp, h1⟩⟩
  · rintro e W' ⟨h1, (⟨ys, rfl, p, hp, h⟩ | ⟨pre, hpre, p, rfl, h⟩)⟩
    · exact ⟨h1, .inl ⟨p, hp, h⟩⟩
    · exact ⟨h1, .inr ⟨p, hpre, h⟩⟩
end Go.Proofs.YtkgbpildikjoiaaGreatDoor
