/- The tries that are allowed, one after another: the iterator; the conditions: the row in memory, of a size that can be. -/
import Derived.RangeFuncNested
import Derived.RangeFuncBound
import Derived.RangeFuncCalls
import Derived.RangeFuncLeaves
import Derived.Shelf.Abstract
import Derived.Shelf.RegionOpen
import Derived.WalkKit
import Derived.OwnWalkIn
import Derived.TacticsInMore
import Derived.LoopNIn
import Derived.LoopIn
import Derived.Test.YtihmkjlmhjhocaaYa
namespace Go.Proofs.Ytihmkjlmhjhocaa
open Go.RowKit Go.Shelf
attribute [local go_sem] Oper.semAt_some

/-- A result, as it lies in memory. -/
structure Re where
  er : Int
  co : Int
  pk : Int
  pn : Int
  has : Bool
  k : Int
  i : Int
  u : Int
  s : ByteArray
  a : Option Addr
  n : Nat
  c : Nat
abbrev Re.cs (x : Re) : Array Value := #[.int .i64 x.er, .int .i64 x.co, .int .i64 x.pk, .int .i64 x.pn, .bool x.has, .int .i64 x.k, .int .i64 x.i, .int .u64 x.u, .string x.s, .slice x.a x.n x.c]
def Re.zero : Re := ⟨0, 0, 0, 0, false, 0, 0, 0, ⟨#[]⟩, none, 0, 0⟩
/-- A result stands at a place. -/
def ReAt (w : World) (b o : Nat) (x : Re) : Prop := w.cell? ⟨b, o, none⟩ = some (.int .i64 x.er) ∧ w.cell? ⟨b, o + 1, none⟩ = some (.int .i64 x.co) ∧ w.cell? ⟨b, o + 2, none⟩ = some (.int .i64 x.pk) ∧ w.cell? ⟨b, o + 3, none⟩ = some (.int .i64 x.pn) ∧ w.cell? ⟨b, o + 4, none⟩ = some (.bool x.has) ∧ w.cell? ⟨b, o + 5, none⟩ = some (.int .i64 x.k) ∧ w.cell? ⟨b, o + 6, none⟩ = some (.int .i64 x.i) ∧ w.cell? ⟨b, o + 7, none⟩ = some (.int .u64 x.u) ∧ w.cell? ⟨b, o + 8, none⟩ = some (.string x.s) ∧ w.cell? ⟨b, o + 9, none⟩ = some (.slice x.a x.n x.c)
theorem ReAt.below {w w' : World} {b o n : Nat} {x : Re} (h : ReAt w b o x) (hb : Below n w w') (hg : b < n) : ReAt w' b o x := by
  have c : ∀ p, w'.cell? ⟨b, p, none⟩ = w.cell? ⟨b, p, none⟩ := fun p => World.cell?_of_block (hb.block b hg)
  simp only [ReAt, c]
  exact h
/-- A row of results. -/
def Rrow (w : World) (ad : Option Addr) (l : List Re) : Prop := l = [] ∨ ∃ b o, ad = some ⟨b, o, none⟩ ∧ b < w.heap.size ∧ ∀ j x, l[j]? = some x → ReAt w b (o + j * 10) x
theorem Rrow.below {w w' : World} {ad : Option Addr} {l : List Re} (h : Rrow w ad l) (hb : Below w.heap.size w w') : Rrow w' ad l := by
  rcases h with h | ⟨b, o, e, h1, h2⟩
  · exact .inl h
  · exact .inr ⟨b, o, e, Nat.lt_of_lt_of_le h1 hb.size, fun j x hj => (h2 j x hj).below hb h1⟩

set_option maxRecDepth 100000 in
set_option maxHeartbeats 2000000 in
theorem iter_in (F : Fence) (n : Nat) (h23 : F.fn 23) (hro : F.round = none) (hn : 1 ≤ n) (l Bl Bm n₀ b off cap M : Nat) (zs : List Re) (hM : M ≤ zs.length) (hreach : zs.length ≤ 9223372036854775807) (hcap : zs.length ≤ cap) (hb : b < n₀) (J Jx : List Re → World → Prop)
    (hJa : ∀ pre A, J pre A → ∀ o, J pre (A.alloc o))
    (hY : ∀ pre x W, J pre W → pre.length < M → YieldAt F (n - 1) Try.prog l #[.agg x.cs] W fun e W' =>
      (e = .returned (.bool true) ∧ J (pre ++ [x]) W' ∧ Below n₀ W W') ∨ (e = .returned (.bool false) ∧ Jx (pre ++ [x]) W'))
    (W : World) (hW : n₀ ≤ W.heap.size) (cl : W.cell? ⟨Bl, 0, none⟩ = some (.slice (some ⟨b, off, none⟩) zs.length cap)) (cm : W.cell? ⟨Bm, 0, none⟩ = some (.int .i64 M)) (hc : ∀ j x, zs[j]? = some x → ReAt W b (off + j * 10) x) (h0 : J [] W) :
    CallsIn F n Try.prog 23 #[.func (.yield l) #[] #[], .pointer (some ⟨Bl, 0, none⟩), .pointer (some ⟨Bm, 0, none⟩)] W fun e W' => (∃ v, e = .returned v) ∧
      ((∃ ys, ys = zs.take M ∧ J ys W') ∨ (∃ pre, (∃ k, k ≤ M ∧ pre = zs.take k) ∧ Jx pre W')) := by
  refine callsIn_of_wp Try.func23 rfl h23 ?_ hro
  simp only [Try.ntmps23, List.size_toArray, List.length_cons, List.length_nil, Nat.reduceAdd, Nat.reduceSub, Array.replicate_succ, Array.replicate_zero, List.push_toArray, List.append_toArray, List.nil_append, List.cons_append]
  gi_wp2
  gi_loopw [10] (fun i wr => ∃ k : Nat, k ≤ M ∧ i = .int .i64 k ∧ J (zs.take k) wr ∧ Below n₀ W wr)
    (fun i _ => M - (intOf i).toNat)
  case atStart => exact ⟨0, Nat.zero_le _, rfl, h0, Below.refl _ _⟩
  case round =>
    obtain ⟨k, hk, rfl, hJs, hnx⟩ := hrel
    by_cases hlt : k < M
    · have hkz : k < zs.length := by omega
      have htk : zs.take (k + 1) = zs.take k ++ [zs[k]] := by rw [List.take_add_one, List.getElem?_eq_getElem hkz]; rfl
      obtain ⟨x0, x1, x2, x3, x4, x5, x6, x7, x8, x9⟩ := (hc k _ (List.getElem?_eq_getElem hkz)).below hnx hb
      obtain ⟨fn, tmps, assign, body, hy, hR⟩ := hY _ zs[k] (wr.alloc (.cells zs[k].cs 30)) (hJa _ _ hJs _) (by rw [List.length_take]; omega)
      clear hc hY
      generalize zs[k] = x at x0 x1 x2 x3 x4 x5 x6 x7 x8 x9 hy hR htk
      have HR := Lib.hid hR
      clear hR
      gi_wp2
      refine HR.out.mono ?_
      rintro e W3 (⟨rfl, hJ3, hk3⟩ | ⟨rfl, hJx3⟩)
      · have hk4 : Below n₀ wr W3 := ((Below.refl n₀ wr).alloc (by have := hnx.size; omega) _).trans hk3
        gi_wp2
        go_roundw
        case rel => exact ⟨k + 1, by omega, by go_num, by rw [htk]; exact hJ3, hnx.trans hk4⟩
        case measure => simp [intOf]; omega
      · gi_wp2
        refine bodyPost_ret (results_none rfl _ _ _) rfl ?_
        exact ⟨⟨_, rfl⟩, .inr ⟨_, ⟨k + 1, by omega, htk.symm⟩, hJx3⟩⟩
    · obtain rfl : k = M := by omega
      gi_wp2
      go_end0
      exact ⟨⟨_, rfl⟩, .inl ⟨_, rfl, hJs⟩⟩

set_option maxRecDepth 100000 in
set_option maxHeartbeats 2000000 in
/-- .. where no try is allowed. -/
theorem iter_none_in (F : Fence) (n : Nat) (h23 : F.fn 23) (hro : F.round = none) (l Bl Bm cap : Nat) (ad : Option Addr) (J : List Re → World → Prop)
    (W : World) (cl : W.cell? ⟨Bl, 0, none⟩ = some (.slice ad 0 cap)) (cm : W.cell? ⟨Bm, 0, none⟩ = some (.int .i64 0)) (h0 : J [] W) :
    CallsIn F n Try.prog 23 #[.func (.yield l) #[] #[], .pointer (some ⟨Bl, 0, none⟩), .pointer (some ⟨Bm, 0, none⟩)] W fun e W' => (∃ v, e = .returned v) ∧ J [] W' := by
  refine callsIn_of_wp Try.func23 rfl h23 ?_ hro
  simp only [Try.ntmps23, List.size_toArray, List.length_cons, List.length_nil, Nat.reduceAdd, Nat.reduceSub, Array.replicate_succ, Array.replicate_zero, List.push_toArray, List.append_toArray, List.nil_append, List.cons_append]
  gi_wp2
  gi_loopw [10] (fun i wr => i = .int .i64 0 ∧ J [] wr) (fun _ _ => 0)
  case atStart => exact ⟨rfl, h0⟩
  case round =>
    obtain ⟨rfl, hJs⟩ := hrel
    gi_wp2
    go_end0
    exact ⟨⟨_, rfl⟩, hJs⟩

/-- How many tries are allowed. -/
def most (tries : Int) (n : Nat) : Nat := min (max tries 1).toNat n

set_option maxRecDepth 100000 in
set_option maxHeartbeats 1000000 in
theorem allowed_in (F : Fence) (n : Nat) (h20 : F.fn 20) (hro : F.round = none) (tries : Int) (ad : Option Addr) (len cap : Nat) (w : World) :
    CallsIn F n Try.prog 20 #[.int .i64 tries, .slice ad len cap] w fun e w' => e = .returned (.func (.func 23) #[] #[.pointer (some ⟨w.heap.size, 0, none⟩), .pointer (some ⟨w.heap.size + 1, 0, none⟩)]) ∧ w' = (w.alloc (.cells #[.slice ad len cap] 34)).alloc (.cells #[.int .i64 (most tries len)] 2) := by
  refine callsIn_of_wp Try.func20 rfl h20 ?_ hro
  simp only [Try.ntmps20, List.size_toArray, List.length_cons, List.length_nil, Nat.reduceAdd, Nat.reduceSub, Array.replicate_succ, Array.replicate_zero, List.push_toArray, List.append_toArray, List.nil_append, List.cons_append]
  gi_wp2
  all_goals go_ret
  all_goals refine ⟨rfl, ?_⟩
  all_goals first
    | (have e : ((most tries len : Nat) : Int) = (len : Int) := by unfold most; omega
       rw [e])
    | (have e : ((most tries len : Nat) : Int) = 1 := by unfold most; omega
       rw [e])
    | (have e : ((most tries len : Nat) : Int) = tries := by unfold most; omega
       rw [e])

/-- The iterator's contract. -/
theorem allowed_stops (F : Fence) (n : Nat) (h23 : F.fn 23) (hro : F.round = none) (hn : 1 ≤ n) (Bl Bm n₀ cap : Nat) (ad : Option Addr) (tries : Int) (zs : List Re) (hreach : zs.length ≤ 9223372036854775807) (hcap : zs.length ≤ cap) (w : World) (hn₀ : n₀ ≤ w.heap.size) (hl : Bl < w.heap.size) (hm : Bm < w.heap.size)
    (cl : w.cell? ⟨Bl, 0, none⟩ = some (.slice ad zs.length cap)) (cm : w.cell? ⟨Bm, 0, none⟩ = some (.int .i64 (most tries zs.length))) (hI : zs = [] ∨ ∃ b o, ad = some ⟨b, o, none⟩ ∧ b < n₀ ∧ ∀ j x, zs[j]? = some x → ReAt w b (o + j * 10) x) :
    SeqStopsK F n Try.prog 23 #[.pointer (some ⟨Bl, 0, none⟩), .pointer (some ⟨Bm, 0, none⟩)] (fun x : Re => #[.agg x.cs]) (Below n₀) (fun ys => ys = zs.take (most tries zs.length)) (fun pre => ∃ k, k ≤ most tries zs.length ∧ pre = zs.take k) (most tries zs.length) w := fun l J Jx W hW hJ _ hY h0 => by
  have cl' := (hW.cell (p := ⟨Bl, 0, none⟩) hl).trans cl
  have cm' := (hW.cell (p := ⟨Bm, 0, none⟩) hm).trans cm
  have hs := hW.size
  rcases hI with rfl | ⟨b, o, rfl, hb, hc⟩
  · have e : most tries ([] : List Re).length = 0 := by simp [most]
    rw [e] at cm'
    exact (iter_none_in F n h23 hro l Bl Bm cap ad J W cl' cm' h0).mono fun e W' ⟨he, hj⟩ => ⟨he, .inl ⟨_, by simp, hj⟩⟩
  · exact iter_in F n h23 hro hn l Bl Bm n₀ b o cap _ zs (by unfold most; omega) hreach hcap hb J Jx (fun pre A hA o => hJ pre A _ none hA (World.grownBy_alloc A o none) (fun r e => by cases e)) hY W (by omega) cl' cm' (fun j x hj => (hc j x hj).below hW (by omega)) h0
end Go.Proofs.Ytihmkjlmhjhocaa
