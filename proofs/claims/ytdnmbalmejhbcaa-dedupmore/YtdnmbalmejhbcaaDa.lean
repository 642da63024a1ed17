/- Numbers in memory, gone through from the last one back, and which are known; the conditions: the row in memory, of a size that can be. -/
import Derived.Test.YtdnmbalmejhbcaaRows
import Derived.WalkKit
import Derived.WalkSpells
import Derived.WalkLawsBesides
import Derived.Deep.QuietTactic
import Derived.BigQuiet
import Derived.Stop.Asserts
import Derived.Deep.RegionHeld3
import Derived.Lib.Hide
import Derived.Maps.AppendAt
import Derived.RangeFuncNested
import Derived.RangeFuncBound
import Derived.RangeFuncCalls
import Derived.RangeFuncLeaves
import Derived.Shelf.Abstract
import Derived.Shelf.RegionOpen
import Derived.OwnWalkIn
import Derived.TacticsInMore
import Derived.LoopNIn
import Derived.LoopIn
namespace Go.Proofs.Ytdnmbalmejhbcaa
open Go.RowKit Go.Shelf

theorem heap_alloc_new (w : World) (o : Obj) : (w.alloc o).heap[w.heap.size]? = some o := World.alloc_heap_new w o
theorem below1 (w : World) (o : Obj) : Below w.heap.size w (w.alloc o) := (Below.refl _ w).alloc (Nat.le_refl _) _
theorem below2 (w : World) (o p : Obj) : Below w.heap.size w ((w.alloc o).alloc p) := ((Below.refl _ w).alloc (Nat.le_refl _) _).alloc (by simp) _
theorem below_al {w w' : World} {o : Obj} (h : Below w.heap.size w w') : Below w.heap.size w (w'.alloc o) := h.alloc h.size o
theorem below_then {w w' w1 : World} (b : Below w'.heap.size w' w1) (h : Below w.heap.size w w') : Below w.heap.size w w1 := h.trans (b.mono h.size)

/-- A block of cells. -/
def Bk (w : World) (N : Nat) (cs : Array Value) (T : TypeId) : Prop := w.heap[N]? = some (.cells cs T (0, 0))
theorem Bk.new (w : World) (cs : Array Value) (T : TypeId) : Bk (w.alloc (.cells cs T)) w.heap.size cs T := heap_alloc_new w _
theorem Bk.lt {w : World} {N : Nat} {cs : Array Value} {T : TypeId} (h : Bk w N cs T) : N < w.heap.size := (Array.getElem?_eq_some_iff.1 h).1
theorem Bk.step {w w' : World} {N : Nat} {cs : Array Value} {T : TypeId} (h : Bk w N cs T) (hb : Below w.heap.size w w') : Bk w' N cs T := (hb.block N h.lt).trans h
theorem Bk.under {w w' : World} {N M : Nat} {cs : Array Value} {T : TypeId} (h : Bk w N cs T) (hb : Below M w w') (hN : N < M) : Bk w' N cs T := (hb.block N hN).trans h
theorem Bk.c {w : World} {N : Nat} {cs : Array Value} {T : TypeId} (h : Bk w N cs T) (o : Nat) : w.cell? ⟨N, o, none⟩ = cs[o]? := by
  unfold Bk at h
  simp [World.cell?, h]
theorem Bk.f {w : World} {N : Nat} {cs : Array Value} {T : TypeId} (h : Bk w N cs T) (o : Nat) : w.frozen? ⟨N, o, none⟩ = false := by
  unfold Bk at h
  simp [World.frozen?, h]
theorem Bk.set {w : World} {N : Nat} {cs : Array Value} {T : TypeId} (h : Bk w N cs T) (o : Nat) (v : Value) : Bk (w.setCell ⟨N, o, none⟩ v) N (cs.setIfInBounds o v) T := by
  unfold Bk at h ⊢
  simp [World.setCell, Array.getElem?_modify, h]
theorem Bk.other {w : World} {N : Nat} {cs : Array Value} {T : TypeId} (h : Bk w N cs T) (a : Addr) (v : Value) (hne : N ≠ a.block) : Bk (w.setCell a v) N cs T := (Below.heap_setCell w a v N hne).trans h
theorem Bk.alloc {w : World} {N : Nat} {cs : Array Value} {T : TypeId} (h : Bk w N cs T) (o : Obj) : Bk (w.alloc o) N cs T := h.step (below1 w o)
theorem Bk.drew {w : World} {N : Nat} {cs : Array Value} {T : TypeId} (h : Bk w N cs T) : Bk w.drew N cs T := h
theorem bk_own {β : Type} (B : Nat) (cs : β → Array Value) (T : TypeId) : Own (fun (s : β) W => Bk W B (cs s) T) := fun s W W' row hs hg hr => by
  refine (hg.block B hs.lt fun e => ?_).trans hs
  obtain ⟨_, ho, hc⟩ := hr B e.symm
  rw [show W.heap[B]? = some (.cells (cs s) T (0, 0)) from hs] at ho
  cases ho
  cases hc
theorem keeps_below {W W' : World} (h : Below W.heap.size W W') : KeepsOthers W W' := ⟨h.size, fun k _ hk _ => (h.block k (Array.getElem?_eq_some_iff.1 hk).1).trans hk⟩

/-- Numbers in memory: a slice's. -/
structure Sl (w : World) (ad : Option Addr) (cap : Nat) (l : List Int) : Prop where
  le : l.length ≤ cap
  no : ad = none → cap = 0
  at' : l = [] ∨ ∃ b o, ad = some ⟨b, o, none⟩ ∧ b < w.heap.size ∧ ∀ j (h : j < l.length), w.cell? ⟨b, o + j, none⟩ = some (.int .i64 l[j])
theorem Sl.below {w w' : World} {ad : Option Addr} {cap n : Nat} {l : List Int} (h : Sl w ad cap l) (hb : Below n w w') (hn : w.heap.size ≤ n) : Sl w' ad cap l := by
  refine ⟨h.le, h.no, ?_⟩
  rcases h.at' with h | ⟨b, o, e, h1, h2⟩
  · exact .inl h
  · exact .inr ⟨b, o, e, Nat.lt_of_lt_of_le h1 hb.size, fun j hj => (World.cell?_of_block (hb.block b (by omega))).trans (h2 j hj)⟩
theorem Sl.step {w w' : World} {ad : Option Addr} {cap : Nat} {l : List Int} (h : Sl w ad cap l) (hb : Below w.heap.size w w') : Sl w' ad cap l := h.below hb (Nat.le_refl _)
theorem Sl.cell {w : World} {ad : Option Addr} {cap : Nat} {l : List Int} (h : Sl w ad cap l) (hp : 0 < l.length) : ∃ b o, ad = some ⟨b, o, none⟩ ∧ b < w.heap.size ∧ ∀ j (h : j < l.length), w.cell? ⟨b, o + j, none⟩ = some (.int .i64 l[j]) := by
  rcases h.at' with h | h
  · simp [h] at hp
  · exact h

section
attribute [local go_sem] Oper.semAt_some
set_option maxRecDepth 100000 in
set_option maxHeartbeats 2000000 in
theorem iter_in (F : Fence) (n : Nat) (h18 : F.fn 18) (hro : F.round = none) (hn : 1 ≤ n) (l Bl n₀ cap : Nat) (ad : Option Addr) (zs : List Int) (hreach : zs.length ≤ 9223372036854775807) (hBl : Bl < n₀) (J Jx : List Int → World → Prop)
    (hY : ∀ pre x W, J pre W → pre.length < zs.length → YieldAt F (n - 1) Try.prog l #[.int .i64 x] W fun e W' =>
      (e = .returned (.bool true) ∧ J (pre ++ [x]) W' ∧ Below n₀ W W') ∨ (e = .returned (.bool false) ∧ Jx (pre ++ [x]) W'))
    (W : World) (cl : W.cell? ⟨Bl, 0, none⟩ = some (.slice ad zs.length cap)) (hc : 0 < zs.length → ∃ b off, ad = some ⟨b, off, none⟩ ∧ b < n₀ ∧ ∀ j (h : j < zs.length), W.cell? ⟨b, off + j, none⟩ = some (.int .i64 zs[j])) (h0 : J [] W) :
    CallsIn F n Try.prog 18 #[.func (.yield l) #[] #[], .pointer (some ⟨Bl, 0, none⟩)] W fun e W' => (∃ v, e = .returned v) ∧
      ((∃ ys, ys = zs.reverse ∧ J ys W') ∨ (∃ pre, (∃ k, pre = zs.reverse.take k) ∧ Jx pre W')) := by
  refine callsIn_of_wp Try.func18 rfl h18 ?_ hro
  simp only [Try.ntmps18, List.size_toArray, List.length_cons, List.length_nil, Nat.reduceAdd, Nat.reduceSub, Array.replicate_succ, Array.replicate_zero, List.push_toArray, List.append_toArray, List.nil_append, List.cons_append]
  have hM : ∀ m : Nat, m ≤ zs.length → -9223372036854775808 ≤ (m : Int) - 1 ∧ (m : Int) - 1 ≤ 9223372036854775807 := fun m hm => by omega
  have hM0 := hM _ (Nat.le_refl _)
  gi_wp2
  gi_loopw [3] (fun i wr => ∃ m : Nat, m ≤ zs.length ∧ i = .int .i64 ((m : Int) - 1) ∧ J (zs.reverse.take (zs.length - m)) wr ∧ Below n₀ W wr)
    (fun i _ => (intOf i + 1).toNat)
  case atStart => exact ⟨zs.length, Nat.le_refl _, rfl, by simpa using h0, Below.refl _ _⟩
  case round =>
    obtain ⟨m, hm, rfl, hJs, hnx⟩ := hrel
    cases m with
    | succ m =>
      have hlt : m < zs.length := by omega
      obtain ⟨b, off, rfl, hb, hcc⟩ := hc (by omega)
      have hx : wr.cell? ⟨b, off + m, none⟩ = _ := (World.cell?_of_block (hnx.block b hb)).trans (hcc m hlt)
      have hcl : wr.cell? ⟨Bl, 0, none⟩ = _ := (World.cell?_of_block (hnx.block Bl hBl)).trans cl
      have htk : zs.reverse.take (zs.length - m) = zs.reverse.take (zs.length - (m + 1)) ++ [zs[m]] := by
        rw [show zs.length - m = zs.length - (m + 1) + 1 by omega, List.take_add_one, List.getElem?_reverse (by omega), show zs.length - 1 - (zs.length - (m + 1)) = m by omega, List.getElem?_eq_getElem hlt]; rfl
      obtain ⟨fn, tmps, assign, body, hy, hR⟩ := hY _ zs[m] wr hJs (by rw [List.length_take, List.length_reverse]; omega)
      rw [show ((m + 1 : Nat) : Int) - 1 = (m : Int) by omega]
      clear hc hcc hY cl hM hM0
      generalize zs[m] = x at hx hy hR htk
      have HR := Lib.hid hR
      clear hR
      gi_wp2
      refine HR.out.mono ?_
      rintro e W3 (⟨rfl, hJ3, hk3⟩ | ⟨rfl, hJx3⟩)
      · gi_wp2
        go_roundw
        case rel => exact ⟨m, by omega, by go_num, by rw [htk]; exact hJ3, hnx.trans hk3⟩
        case measure => simp [intOf]
      · gi_wp2
        refine bodyPost_ret (results_none rfl _ _ _) rfl ?_
        exact ⟨⟨_, rfl⟩, .inr ⟨_, ⟨_, htk.symm⟩, hJx3⟩⟩
    | zero =>
      gi_wp2
      go_end0
      exact ⟨⟨_, rfl⟩, .inl ⟨_, rfl, by rw [Nat.sub_zero, List.take_of_length_le (by simp)] at hJs; exact hJs⟩⟩

set_option maxRecDepth 100000 in
theorem latest_in (F : Fence) (n : Nat) (h20 : F.fn 16) (hro : F.round = none) (ad : Option Addr) (len cap : Nat) (w : World) :
    CallsIn F n Try.prog 16 #[.slice ad len cap] w fun e w' => e = .returned (.func (.func 18) #[] #[.pointer (some ⟨w.heap.size, 0, none⟩)]) ∧ w' = w.alloc (.cells #[.slice ad len cap] 22) := by
  refine callsIn_of_wp Try.func16 rfl h20 ?_ hro
  simp only [Try.ntmps16, List.size_toArray, List.length_cons, List.length_nil, Nat.reduceAdd, Nat.reduceSub, Array.replicate_succ, Array.replicate_zero, List.push_toArray, List.append_toArray, List.nil_append, List.cons_append]
  gi_wp2
  go_ret
  exact ⟨rfl, rfl⟩

/-- The iterator's contract. -/
theorem latest_stops (F : Fence) (n : Nat) (h18 : F.fn 18) (hro : F.round = none) (hn : 1 ≤ n) (Bl n₀ cap : Nat) (ad : Option Addr) (zs : List Int) (hreach : zs.length ≤ 9223372036854775807) (w : World) (hn₀ : n₀ = w.heap.size) (hl : Bl < n₀)
    (cl : w.cell? ⟨Bl, 0, none⟩ = some (.slice ad zs.length cap)) (hI : Sl w ad cap zs) :
    SeqStopsK F n Try.prog 18 #[.pointer (some ⟨Bl, 0, none⟩)] (fun x : Int => #[.int .i64 x]) (Below n₀) (fun ys => ys = zs.reverse) (fun pre => ∃ k, pre = zs.reverse.take k) zs.length w := fun l J Jx W hW hJ _ hY h0 => by
  have hs := hW.size
  have cl' := (hW.cell (p := ⟨Bl, 0, none⟩) (show Bl < _ by omega)).trans cl
  refine iter_in F n h18 hro hn l Bl n₀ cap ad zs hreach hl J Jx hY W cl' (fun hp => ?_) h0
  obtain ⟨b, o, e, h1, h2⟩ := hI.cell hp
  exact ⟨b, o, e, by omega, fun j hj => (hW.cell (p := ⟨b, o + j, none⟩) (by simpa using h1)).trans (h2 j hj)⟩
end
end Go.Proofs.Ytdnmbalmejhbcaa
