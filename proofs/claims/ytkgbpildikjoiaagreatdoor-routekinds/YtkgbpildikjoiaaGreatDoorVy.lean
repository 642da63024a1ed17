/- A range over a function whose iterator goes through the numbers below N and whose rounds never leave the loop; no condition but those that the theorem names. The package's small calls: what a route is without a pattern, whether a value is of a kind, what came of holding a route against a message; conditions that each theorem names. What came of holding a route against a message, and the iterator that goes through the routes; conditions that each theorem names. The package's Find, walked; the conditions that each theorem names. The package's Handlers, walked; the conditions that each theorem names. The builder of texts, as this program has it: what its writing calls make of it; the conditions that each theorem names. A region that draws its order within a round of a loop over a function, by the walk of such a region outside of one; no condition but those that each theorem names. The package's Explain, walked; the conditions that each theorem names. What the laws of this layer ask of the package, at hand. -/
import Derived.RangeFuncNested
import Derived.RangeFuncBound
import Derived.RangeFuncCalls
import Derived.RangeFuncLeaves
import Derived.Shelf.Abstract
import Derived.WalkKit
import Derived.OwnWalkIn
import Derived.TacticsInMore
import Derived.LoopNIn
import Derived.LoopIn
import Derived.BigQuiet
import Derived.Test.YtkgbpildikjoiaaGreatDoorProg
import Derived.Test.YtkgbpildikjoiaaGreatDoorVf
import Derived.Test.YtkgbpildikjoiaaGreatDoorPub
import Derived.Test.YtkgbpildikjoiaaGreatDoorTg
import Derived.Test.YtkgbpildikjoiaaGreatDoorShelf
import Derived.Test.YtkgbpildikjoiaaGreatDoorBase
import Derived.Shelf.Strings.BuilderK
import Derived.Deep.RegionHeld3
namespace Go.Proofs.YtkgbpildikjoiaaGreatDoor
open Go.RowKit

/-- What such an iterator promises: it makes new memory alone; what lay below B, and the blocks K, stay while a round runs. -/
def Gives (P : Program) (n g : Nat) (lb : Array Value) (enc : Nat → Array Value) (B : Nat) (K : Nat → Prop) (N : Nat) (w : World) : Prop :=
  ∀ (l : Nat) (J : Nat → World → Prop) (W : World), Below w.heap.size w W →
    (∀ j A A', J j A → Below A.heap.size A A' → J j A') →
    (∀ j A, j < N → J j A → YieldAt Fence.wide (n - 1) P l (enc j) A fun e A' => e = .returned (.bool true) ∧ J (j + 1) A' ∧ Below B A A' ∧ ∀ k, K k → A'.heap[k]? = A.heap[k]?) →
    J 0 W → CallsIn Fence.wide n P g (#[.func (.yield l) #[] #[]] ++ lb) W fun e W' => (∃ v, e = .returned v) ∧ J N W'

/-- How a round ends. -/
def GP (I : World → Prop) (B : Nat) (K : Nat → Prop) (b : Nat) (W : World) (e : Exit) (_ : Act) (W' : World) : Prop := e = .normal ∧ I W' ∧ Below B W W' ∧ (∀ k, K k → W'.heap[k]? = W.heap[k]?) ∧ KeepsFrom b W W'

theorem below_put (W : World) (l : Nat) (o : Obj) (B : Nat) (h : B ≤ l) (_hl : l < W.heap.size) : Below B W (W.putObj l o) :=
  ⟨rfl, rfl, rfl, by simp, fun k hk => World.putObj_heap_other (by omega)⟩

theorem range_gives {P : Program} {n : Nat} {g : Operand} {ps : Array Tmp} {assign body : Code} {Q : Exit → Act → World → Prop} {a : Act} {w : World}
    {gf : Nat} {lb : Array Value} (hg : a.eval g = .func (.func gf) #[] lb) (eg : ∀ args w, (callFunc gf args).run P w = .ok (.enter gf args) w)
    {enc : Nat → Array Value} (hps : ∀ x, (enc x).size = ps.size) {B N : Nat} {K : Nat → Prop} (hB : B ≤ w.heap.size) (hK : ∀ k, K k → k < w.heap.size) (hseq : Gives P (n - 1) gf lb enc B K N w)
    (I : Nat → World → Prop) (hIb : ∀ j A A', I j A → Below A.heap.size A A' → I j A')
    (hIn : ∀ j A k o o', I j A → A.heap[k]? = some o → o.isCells = false → w.heap.size ≤ k → I j (A.putObj k o'))
    (h0 : I 0 w) (a₁ : Nat → Act)
    (hassign : ∀ (l j : Nat) (W : World) (K : Act → World → Prop), K (a₁ j) W → assign.wpIn (Fence.wide.inRound l) (n - 1 - 1) P (Exit.then K (fun _ _ _ => False)) { tmps := (ps.zip (enc j)).foldl (fun t (p, v) => t.setIfInBounds p v) a.tmps, defers := [] } W)
    (hbody : ∀ (l j : Nat) (W : World), j < N → I j W → body.wpIn (Fence.wide.inRound l) (n - 1 - 1) P (GP (I (j + 1)) B K w.heap.size W) (a₁ j) W)
    (hdone : ∀ W, I N W → W.heap[w.heap.size]? = some (.deferred (some [])) → Q .normal { a with defers := { target := .collected w.heap.size, args := #[] } :: a.defers } W) :
    (Code.rangeFunc g ps assign body).wpIn Fence.wide n P Q a w := by
  refine wpIn_rangeFunc fun fn _ => ?_
  obtain ⟨r, hr⟩ : ∃ r : LoopState → Loop, r = fun st => { state := st, pending := none, fn, tmps := a.tmps, params := ps, assign, body, defers := w.heap.size } := ⟨_, rfl⟩
  obtain ⟨W1, hW1⟩ : ∃ W1, W1 = (w.alloc (.deferred (some []))).alloc (.loop (r .ready)) := ⟨_, rfl⟩
  have s1 : (w.alloc (.deferred (some []))).heap.size = w.heap.size + 1 := by simp
  have k1 : W1.heap[w.heap.size + 1]? = some (.loop (r .ready)) := by
    have := World.alloc_heap_new (w.alloc (.deferred (some []))) (.loop (r .ready))
    rw [s1, ← hW1] at this; exact this
  have k2 : W1.heap[w.heap.size]? = some (.deferred (some [])) := by
    rw [hW1, Below.heap_alloc _ _ _ (by omega)]; exact World.alloc_heap_new w _
  have k4 : Below w.heap.size w W1 := by rw [hW1]; exact ((Below.refl _ w).alloc (Nat.le_refl _) _).alloc (by omega) _
  have k3 : I 0 W1 := hIb _ _ _ h0 k4
  refine ⟨w.heap.size + 1, [{ target := .collected w.heap.size, args := #[] }], W1, { target := .fn (.func gf) lb, args := #[.func (.yield (w.heap.size + 1)) #[] #[]] }, W1, gf,
    #[.func (.yield (w.heap.size + 1)) #[] #[]] ++ lb, W1, ?_, ?_, fun _ _ => trivial, ?_, (fun h => by cases h), ?_⟩
  · rw [hW1, hr]; exact run_enterLoop_outer _ _ _ _ _
  · simp only [resolve, hg]; simp [go_sem]
  · simp [invoke, go_sem, eg]
  · refine (hseq (w.heap.size + 1) (fun j W => I j W ∧ W.heap[w.heap.size + 1]? = some (.loop (r .ready)) ∧ W.heap[w.heap.size]? = some (.deferred (some []))) W1 k4 ?_ ?_ ⟨k3, k1, k2⟩).mono ?_
    · rintro j A A' ⟨h1, h2, h3⟩ hb
      exact ⟨hIb _ _ _ h1 hb, (hb.block _ (Array.getElem?_eq_some_iff.1 h2).1).trans h2, (hb.block _ (Array.getElem?_eq_some_iff.1 h3).1).trans h3⟩
    · rintro j A hj ⟨h1, h2, h3⟩
      have hlt := (Array.getElem?_eq_some_iff.1 h2).1
      have hy := run_yield (P := P) (args := enc j) h2 (by rw [hr]; exact hps j)
      rw [hr] at hy
      refine ⟨fn, _, assign, body, hy, roundIn_of_wpIn trivial (hassign _ j A _ ⟨_, run_beginRound h2 (by rw [hr]), wpIn_mono (hbody _ j _ hj (hIn _ _ _ _ _ h1 h2 rfl (by omega))) ?_⟩)⟩
      rintro e a3 W3 ⟨rfl, i3, b3, g3, f3⟩
      have l3 := f3.same _ _ (by omega) (World.putObj_heap_same hlt) rfl
      have d3 := f3.same _ _ (Nat.le_refl _) ((World.putObj_heap_other (by omega)).trans h3) rfl
      have lt3 := (Array.getElem?_eq_some_iff.1 l3).1
      have he := run_endRound (P := P) none l3
      refine ⟨_, _, he, rfl, ⟨hIn _ _ _ _ _ i3 l3 rfl (by omega), ?_, ?_⟩, ?_, fun k hk => ?_⟩
      · rw [World.putObj_heap_same lt3, hr]; rfl
      · rw [World.putObj_heap_other (by omega)]; exact d3
      · exact ((below_put A _ _ B (by omega) hlt).trans b3).trans (below_put W3 _ _ B (by omega) lt3)
      · have := hK k hk
        rw [World.putObj_heap_other (by omega), g3 k hk, World.putObj_heap_other (by omega)]
    · rintro e W2 ⟨⟨v, rfl⟩, h1, h2, h3⟩
      have he := run_endLoop (P := P) h2 (by rw [hr]; simp)
      refine ⟨none, _, by rw [he, hr], hdone _ (hIn _ _ _ _ _ h1 h2 rfl (by omega)) (by rw [World.putObj_heap_other (by omega)]; exact h3)⟩
end Go.Proofs.YtkgbpildikjoiaaGreatDoor
namespace Go.Proofs.YtkgbpildikjoiaaGreatDoor
open Go.RowKit Tp

set_option maxRecDepth 100000 in
set_option maxHeartbeats 2000000 in
theorem isNone_any (o a : Int) (wd : Option Addr) (wl wc : Nat) (w : World) :
    Calls Tryz.prog 56 #[.agg #[.int .i64 o, .int .i64 a, .slice wd wl wc]] w fun e w' => e = .returned (.bool (o == 0 && a == 0 && wl == 0)) ∧ Below w.heap.size w w' := by
  have b0 := below1 w (.cells #[.int .i64 o, .int .i64 a, .slice wd wl wc] 43)
  have hl : ((wl : Int) == 0) = (wl == 0) := by
    cases wl with
    | zero => rfl
    | succ n => rw [show ((n + 1 : Nat) == 0) = false from rfl]; exact beq_false_of_ne (by omega)
  cases h1 : (o == 0) with
  | false =>
    go_enter Tryz.func56, Tryz.ntmps56
    go_wp2_with fail
    go_ret
    exact ⟨rfl, b0⟩
  | true =>
    cases h2 : (a == 0) with
    | false =>
      go_enter Tryz.func56, Tryz.ntmps56
      go_wp2_with fail
      go_ret
      exact ⟨rfl, b0⟩
    | true =>
      cases h3 : (wl == 0) with
      | false =>
        rw [h3] at hl
        go_enter Tryz.func56, Tryz.ntmps56
        go_wp2_with fail
        go_ret
        exact ⟨rfl, b0⟩
      | true =>
        rw [h3] at hl
        go_enter Tryz.func56, Tryz.ntmps56
        go_wp2_with fail
        go_ret
        exact ⟨rfl, b0⟩


theorem assert_no {P : Program} {t x asserted : TypeId} {d : TypeDesc} {v z : Value} {w : World} (hU : P.underlying asserted = some d) (hd : ∀ m, d ≠ .interface m) (hz : (zeroValue asserted).run P w = .ok z w) (hne : t ≠ asserted) :
    (Instr.typeAssert (.iface t v) x asserted true).run P w = .ok (.tuple #[z, .bool false]) w := by
  rw [assert_to hU hd hz, if_neg hne, decide_eq_false hne]
theorem assert_yes {P : Program} {t x : TypeId} {d : TypeDesc} {v z : Value} {w : World} (hU : P.underlying t = some d) (hd : ∀ m, d ≠ .interface m) (hz : (zeroValue t).run P w = .ok z w) :
    (Instr.typeAssert (.iface t v) x t true).run P w = .ok (.tuple #[v, .bool true]) w := by
  rw [assert_to hU hd hz, if_pos rfl, decide_eq_true rfl]

def isK (k a : Int) : Bool := k == a || (a == 11 && k == 12)

set_option maxRecDepth 100000 in
set_option maxHeartbeats 2000000 in
theorem isOf0 (a : Int) (w : World) : Calls Tryz.prog 57 #[.nilIface, .int .i64 a] w fun e w' => e = .returned (.bool (isK 0 a)) ∧ Below w.heap.size w w' := by
  have e : isK 0 a = (0 == a) := by simp [isK]
  rw [e]
  clear e
  have e : ((0 : Int) == a) = (a == 0) := by rw [Bool.eq_iff_iff]; simp; exact eq_comm
  rw [e]
  clear e
  go_enter Tryz.func57, Tryz.ntmps57
  go_wp2
  all_goals go_ret
  all_goals exact ⟨rfl, by first | exact Below.refl _ _ | exact below1 w _ | exact below2 w _ _⟩

set_option maxRecDepth 100000 in
set_option maxHeartbeats 2000000 in
theorem isOf1 (v : Value) (a : Int) (w : World) : Calls Tryz.prog 57 #[.iface 108 v, .int .i64 a] w fun e w' => e = .returned (.bool (isK 1 a)) ∧ Below w.heap.size w w' := by
  have e : isK 1 a = (1 == a) := by simp [isK]
  rw [e]
  clear e
  have e : ((1 : Int) == a) = (a == 1) := by rw [Bool.eq_iff_iff]; simp; exact eq_comm
  rw [e]
  clear e
  have a0 : ∀ (z : Value) (w : World), (Instr.typeAssert (.iface 108 z) 20 108 true).run Tryz.prog w = .ok (.tuple #[z, .bool true]) w := fun z w => assert_yes Tryz.underlying108 (fun m h => by cases h) (z := .int .i64 0) (by kernel_rfl)
  go_enter Tryz.func57, Tryz.ntmps57
  go_wp2
  all_goals go_ret
  all_goals exact ⟨rfl, by first | exact Below.refl _ _ | exact below1 w _ | exact below2 w _ _⟩

set_option maxRecDepth 100000 in
set_option maxHeartbeats 2000000 in
theorem isOf2 (v : Value) (a : Int) (w : World) : Calls Tryz.prog 57 #[.iface 109 v, .int .i64 a] w fun e w' => e = .returned (.bool (isK 2 a)) ∧ Below w.heap.size w w' := by
  have e : isK 2 a = (2 == a) := by simp [isK]
  rw [e]
  clear e
  have e : ((2 : Int) == a) = (a == 2) := by rw [Bool.eq_iff_iff]; simp; exact eq_comm
  rw [e]
  clear e
  have a0 : ∀ (z : Value) (w : World), (Instr.typeAssert (.iface 109 z) 20 108 true).run Tryz.prog w = .ok (.tuple #[.int .i64 0, .bool false]) w := fun z w => assert_no Tryz.underlying108 (fun m h => by cases h) (by kernel_rfl) (by decide)
  have a1 : ∀ (z : Value) (w : World), (Instr.typeAssert (.iface 109 z) 20 109 true).run Tryz.prog w = .ok (.tuple #[z, .bool true]) w := fun z w => assert_yes Tryz.underlying109 (fun m h => by cases h) (z := .int .i64 0) (by kernel_rfl)
  go_enter Tryz.func57, Tryz.ntmps57
  go_wp2
  all_goals go_ret
  all_goals exact ⟨rfl, by first | exact Below.refl _ _ | exact below1 w _ | exact below2 w _ _⟩

set_option maxRecDepth 100000 in
set_option maxHeartbeats 2000000 in
theorem isOf3 (v : Value) (a : Int) (w : World) : Calls Tryz.prog 57 #[.iface 111 v, .int .i64 a] w fun e w' => e = .returned (.bool (isK 3 a)) ∧ Below w.heap.size w w' := by
  have e : isK 3 a = (3 == a) := by simp [isK]
  rw [e]
  clear e
  have e : ((3 : Int) == a) = (a == 3) := by rw [Bool.eq_iff_iff]; simp; exact eq_comm
  rw [e]
  clear e
  have a0 : ∀ (z : Value) (w : World), (Instr.typeAssert (.iface 111 z) 20 108 true).run Tryz.prog w = .ok (.tuple #[.int .i64 0, .bool false]) w := fun z w => assert_no Tryz.underlying108 (fun m h => by cases h) (by kernel_rfl) (by decide)
  have a1 : ∀ (z : Value) (w : World), (Instr.typeAssert (.iface 111 z) 20 109 true).run Tryz.prog w = .ok (.tuple #[.int .i64 0, .bool false]) w := fun z w => assert_no Tryz.underlying109 (fun m h => by cases h) (by kernel_rfl) (by decide)
  have a2 : ∀ (z : Value) (w : World), (Instr.typeAssert (.iface 111 z) 20 111 true).run Tryz.prog w = .ok (.tuple #[z, .bool true]) w := fun z w => assert_yes Tryz.underlying111 (fun m h => by cases h) (z := .float .f64 0) (by kernel_rfl)
  go_enter Tryz.func57, Tryz.ntmps57
  go_wp2
  all_goals go_ret
  all_goals exact ⟨rfl, by first | exact Below.refl _ _ | exact below1 w _ | exact below2 w _ _⟩

set_option maxRecDepth 100000 in
set_option maxHeartbeats 2000000 in
theorem isOf4 (v : Value) (a : Int) (w : World) : Calls Tryz.prog 57 #[.iface 113 v, .int .i64 a] w fun e w' => e = .returned (.bool (isK 4 a)) ∧ Below w.heap.size w w' := by
  have e : isK 4 a = (4 == a) := by simp [isK]
  rw [e]
  clear e
  have e : ((4 : Int) == a) = (a == 4) := by rw [Bool.eq_iff_iff]; simp; exact eq_comm
  rw [e]
  clear e
  have a0 : ∀ (z : Value) (w : World), (Instr.typeAssert (.iface 113 z) 20 108 true).run Tryz.prog w = .ok (.tuple #[.int .i64 0, .bool false]) w := fun z w => assert_no Tryz.underlying108 (fun m h => by cases h) (by kernel_rfl) (by decide)
  have a1 : ∀ (z : Value) (w : World), (Instr.typeAssert (.iface 113 z) 20 109 true).run Tryz.prog w = .ok (.tuple #[.int .i64 0, .bool false]) w := fun z w => assert_no Tryz.underlying109 (fun m h => by cases h) (by kernel_rfl) (by decide)
  have a2 : ∀ (z : Value) (w : World), (Instr.typeAssert (.iface 113 z) 20 111 true).run Tryz.prog w = .ok (.tuple #[.float .f64 0, .bool false]) w := fun z w => assert_no Tryz.underlying111 (fun m h => by cases h) (by kernel_rfl) (by decide)
  have a3 : ∀ (z : Value) (w : World), (Instr.typeAssert (.iface 113 z) 20 113 true).run Tryz.prog w = .ok (.tuple #[z, .bool true]) w := fun z w => assert_yes Tryz.underlying113 (fun m h => by cases h) (z := .string ⟨#[]⟩) (by kernel_rfl)
  go_enter Tryz.func57, Tryz.ntmps57
  go_wp2
  all_goals go_ret
  all_goals exact ⟨rfl, by first | exact Below.refl _ _ | exact below1 w _ | exact below2 w _ _⟩

set_option maxRecDepth 100000 in
set_option maxHeartbeats 2000000 in
theorem isOf5 (v : Value) (a : Int) (w : World) : Calls Tryz.prog 57 #[.iface 114 v, .int .i64 a] w fun e w' => e = .returned (.bool (isK 5 a)) ∧ Below w.heap.size w w' := by
  have e : isK 5 a = (5 == a) := by simp [isK]
  rw [e]
  clear e
  have e : ((5 : Int) == a) = (a == 5) := by rw [Bool.eq_iff_iff]; simp; exact eq_comm
  rw [e]
  clear e
  have a0 : ∀ (z : Value) (w : World), (Instr.typeAssert (.iface 114 z) 20 108 true).run Tryz.prog w = .ok (.tuple #[.int .i64 0, .bool false]) w := fun z w => assert_no Tryz.underlying108 (fun m h => by cases h) (by kernel_rfl) (by decide)
  have a1 : ∀ (z : Value) (w : World), (Instr.typeAssert (.iface 114 z) 20 109 true).run Tryz.prog w = .ok (.tuple #[.int .i64 0, .bool false]) w := fun z w => assert_no Tryz.underlying109 (fun m h => by cases h) (by kernel_rfl) (by decide)
  have a2 : ∀ (z : Value) (w : World), (Instr.typeAssert (.iface 114 z) 20 111 true).run Tryz.prog w = .ok (.tuple #[.float .f64 0, .bool false]) w := fun z w => assert_no Tryz.underlying111 (fun m h => by cases h) (by kernel_rfl) (by decide)
  have a3 : ∀ (z : Value) (w : World), (Instr.typeAssert (.iface 114 z) 20 113 true).run Tryz.prog w = .ok (.tuple #[.string ⟨#[]⟩, .bool false]) w := fun z w => assert_no Tryz.underlying113 (fun m h => by cases h) (by kernel_rfl) (by decide)
  have a4 : ∀ (z : Value) (w : World), (Instr.typeAssert (.iface 114 z) 20 114 true).run Tryz.prog w = .ok (.tuple #[z, .bool true]) w := fun z w => assert_yes Tryz.underlying114 (fun m h => by cases h) (z := .string ⟨#[]⟩) (by kernel_rfl)
  go_enter Tryz.func57, Tryz.ntmps57
  go_wp2
  all_goals go_ret
  all_goals exact ⟨rfl, by first | exact Below.refl _ _ | exact below1 w _ | exact below2 w _ _⟩

set_option maxRecDepth 100000 in
set_option maxHeartbeats 2000000 in
theorem isOf6 (v : Value) (a : Int) (w : World) : Calls Tryz.prog 57 #[.iface 115 v, .int .i64 a] w fun e w' => e = .returned (.bool (isK 6 a)) ∧ Below w.heap.size w w' := by
  have e : isK 6 a = (6 == a) := by simp [isK]
  rw [e]
  clear e
  have e : ((6 : Int) == a) = (a == 6) := by rw [Bool.eq_iff_iff]; simp; exact eq_comm
  rw [e]
  clear e
  have a0 : ∀ (z : Value) (w : World), (Instr.typeAssert (.iface 115 z) 20 108 true).run Tryz.prog w = .ok (.tuple #[.int .i64 0, .bool false]) w := fun z w => assert_no Tryz.underlying108 (fun m h => by cases h) (by kernel_rfl) (by decide)
  have a1 : ∀ (z : Value) (w : World), (Instr.typeAssert (.iface 115 z) 20 109 true).run Tryz.prog w = .ok (.tuple #[.int .i64 0, .bool false]) w := fun z w => assert_no Tryz.underlying109 (fun m h => by cases h) (by kernel_rfl) (by decide)
  have a2 : ∀ (z : Value) (w : World), (Instr.typeAssert (.iface 115 z) 20 111 true).run Tryz.prog w = .ok (.tuple #[.float .f64 0, .bool false]) w := fun z w => assert_no Tryz.underlying111 (fun m h => by cases h) (by kernel_rfl) (by decide)
  have a3 : ∀ (z : Value) (w : World), (Instr.typeAssert (.iface 115 z) 20 113 true).run Tryz.prog w = .ok (.tuple #[.string ⟨#[]⟩, .bool false]) w := fun z w => assert_no Tryz.underlying113 (fun m h => by cases h) (by kernel_rfl) (by decide)
  have a4 : ∀ (z : Value) (w : World), (Instr.typeAssert (.iface 115 z) 20 114 true).run Tryz.prog w = .ok (.tuple #[.string ⟨#[]⟩, .bool false]) w := fun z w => assert_no Tryz.underlying114 (fun m h => by cases h) (by kernel_rfl) (by decide)
  have a5 : ∀ (z : Value) (w : World), (Instr.typeAssert (.iface 115 z) 20 115 true).run Tryz.prog w = .ok (.tuple #[z, .bool true]) w := fun z w => assert_yes Tryz.underlying115 (fun m h => by cases h) (z := .bool false) (by kernel_rfl)
  go_enter Tryz.func57, Tryz.ntmps57
  go_wp2
  all_goals go_ret
  all_goals exact ⟨rfl, by first | exact Below.refl _ _ | exact below1 w _ | exact below2 w _ _⟩

set_option maxRecDepth 100000 in
set_option maxHeartbeats 2000000 in
theorem isOf7 (v : Value) (a : Int) (w : World) : Calls Tryz.prog 57 #[.iface 116 v, .int .i64 a] w fun e w' => e = .returned (.bool (isK 7 a)) ∧ Below w.heap.size w w' := by
  have e : isK 7 a = (7 == a) := by simp [isK]
  rw [e]
  clear e
  have e : ((7 : Int) == a) = (a == 7) := by rw [Bool.eq_iff_iff]; simp; exact eq_comm
  rw [e]
  clear e
  have a0 : ∀ (z : Value) (w : World), (Instr.typeAssert (.iface 116 z) 20 108 true).run Tryz.prog w = .ok (.tuple #[.int .i64 0, .bool false]) w := fun z w => assert_no Tryz.underlying108 (fun m h => by cases h) (by kernel_rfl) (by decide)
  have a1 : ∀ (z : Value) (w : World), (Instr.typeAssert (.iface 116 z) 20 109 true).run Tryz.prog w = .ok (.tuple #[.int .i64 0, .bool false]) w := fun z w => assert_no Tryz.underlying109 (fun m h => by cases h) (by kernel_rfl) (by decide)
  have a2 : ∀ (z : Value) (w : World), (Instr.typeAssert (.iface 116 z) 20 111 true).run Tryz.prog w = .ok (.tuple #[.float .f64 0, .bool false]) w := fun z w => assert_no Tryz.underlying111 (fun m h => by cases h) (by kernel_rfl) (by decide)
  have a3 : ∀ (z : Value) (w : World), (Instr.typeAssert (.iface 116 z) 20 113 true).run Tryz.prog w = .ok (.tuple #[.string ⟨#[]⟩, .bool false]) w := fun z w => assert_no Tryz.underlying113 (fun m h => by cases h) (by kernel_rfl) (by decide)
  have a4 : ∀ (z : Value) (w : World), (Instr.typeAssert (.iface 116 z) 20 114 true).run Tryz.prog w = .ok (.tuple #[.string ⟨#[]⟩, .bool false]) w := fun z w => assert_no Tryz.underlying114 (fun m h => by cases h) (by kernel_rfl) (by decide)
  have a5 : ∀ (z : Value) (w : World), (Instr.typeAssert (.iface 116 z) 20 115 true).run Tryz.prog w = .ok (.tuple #[.bool false, .bool false]) w := fun z w => assert_no Tryz.underlying115 (fun m h => by cases h) (by kernel_rfl) (by decide)
  have a6 : ∀ (z : Value) (w : World), (Instr.typeAssert (.iface 116 z) 20 116 true).run Tryz.prog w = .ok (.tuple #[z, .bool true]) w := fun z w => assert_yes Tryz.underlying116 (fun m h => by cases h) (z := .slice none 0 0) (by kernel_rfl)
  go_enter Tryz.func57, Tryz.ntmps57
  go_wp2
  all_goals go_ret
  all_goals exact ⟨rfl, by first | exact Below.refl _ _ | exact below1 w _ | exact below2 w _ _⟩

set_option maxRecDepth 100000 in
set_option maxHeartbeats 2000000 in
theorem isOf8 (v : Value) (a : Int) (w : World) : Calls Tryz.prog 57 #[.iface 118 v, .int .i64 a] w fun e w' => e = .returned (.bool (isK 8 a)) ∧ Below w.heap.size w w' := by
  have e : isK 8 a = (8 == a) := by simp [isK]
  rw [e]
  clear e
  have e : ((8 : Int) == a) = (a == 8) := by rw [Bool.eq_iff_iff]; simp; exact eq_comm
  rw [e]
  clear e
  have a0 : ∀ (z : Value) (w : World), (Instr.typeAssert (.iface 118 z) 20 108 true).run Tryz.prog w = .ok (.tuple #[.int .i64 0, .bool false]) w := fun z w => assert_no Tryz.underlying108 (fun m h => by cases h) (by kernel_rfl) (by decide)
  have a1 : ∀ (z : Value) (w : World), (Instr.typeAssert (.iface 118 z) 20 109 true).run Tryz.prog w = .ok (.tuple #[.int .i64 0, .bool false]) w := fun z w => assert_no Tryz.underlying109 (fun m h => by cases h) (by kernel_rfl) (by decide)
  have a2 : ∀ (z : Value) (w : World), (Instr.typeAssert (.iface 118 z) 20 111 true).run Tryz.prog w = .ok (.tuple #[.float .f64 0, .bool false]) w := fun z w => assert_no Tryz.underlying111 (fun m h => by cases h) (by kernel_rfl) (by decide)
  have a3 : ∀ (z : Value) (w : World), (Instr.typeAssert (.iface 118 z) 20 113 true).run Tryz.prog w = .ok (.tuple #[.string ⟨#[]⟩, .bool false]) w := fun z w => assert_no Tryz.underlying113 (fun m h => by cases h) (by kernel_rfl) (by decide)
  have a4 : ∀ (z : Value) (w : World), (Instr.typeAssert (.iface 118 z) 20 114 true).run Tryz.prog w = .ok (.tuple #[.string ⟨#[]⟩, .bool false]) w := fun z w => assert_no Tryz.underlying114 (fun m h => by cases h) (by kernel_rfl) (by decide)
  have a5 : ∀ (z : Value) (w : World), (Instr.typeAssert (.iface 118 z) 20 115 true).run Tryz.prog w = .ok (.tuple #[.bool false, .bool false]) w := fun z w => assert_no Tryz.underlying115 (fun m h => by cases h) (by kernel_rfl) (by decide)
  have a6 : ∀ (z : Value) (w : World), (Instr.typeAssert (.iface 118 z) 20 116 true).run Tryz.prog w = .ok (.tuple #[.slice none 0 0, .bool false]) w := fun z w => assert_no Tryz.underlying116 (fun m h => by cases h) (by kernel_rfl) (by decide)
  have a7 : ∀ (z : Value) (w : World), (Instr.typeAssert (.iface 118 z) 20 118 true).run Tryz.prog w = .ok (.tuple #[z, .bool true]) w := fun z w => assert_yes Tryz.underlying118 (fun m h => by cases h) (z := .slice none 0 0) (by kernel_rfl)
  go_enter Tryz.func57, Tryz.ntmps57
  go_wp2
  all_goals go_ret
  all_goals exact ⟨rfl, by first | exact Below.refl _ _ | exact below1 w _ | exact below2 w _ _⟩

set_option maxRecDepth 100000 in
set_option maxHeartbeats 2000000 in
theorem isOf9 (x y : Value) (hx : Sx x) (hy : Sx y) (a : Int) (w : World) : Calls Tryz.prog 57 #[.iface 122 (.agg #[x, y]), .int .i64 a] w fun e w' => e = .returned (.bool (isK 9 a)) ∧ Below w.heap.size w w' := by
  have e : isK 9 a = (9 == a) := by simp [isK]
  rw [e]
  clear e
  have e : ((9 : Int) == a) = (a == 9) := by rw [Bool.eq_iff_iff]; simp; exact eq_comm
  rw [e]
  clear e
  have a0 : ∀ (z : Value) (w : World), (Instr.typeAssert (.iface 122 z) 20 108 true).run Tryz.prog w = .ok (.tuple #[.int .i64 0, .bool false]) w := fun z w => assert_no Tryz.underlying108 (fun m h => by cases h) (by kernel_rfl) (by decide)
  have a1 : ∀ (z : Value) (w : World), (Instr.typeAssert (.iface 122 z) 20 109 true).run Tryz.prog w = .ok (.tuple #[.int .i64 0, .bool false]) w := fun z w => assert_no Tryz.underlying109 (fun m h => by cases h) (by kernel_rfl) (by decide)
  have a2 : ∀ (z : Value) (w : World), (Instr.typeAssert (.iface 122 z) 20 111 true).run Tryz.prog w = .ok (.tuple #[.float .f64 0, .bool false]) w := fun z w => assert_no Tryz.underlying111 (fun m h => by cases h) (by kernel_rfl) (by decide)
  have a3 : ∀ (z : Value) (w : World), (Instr.typeAssert (.iface 122 z) 20 113 true).run Tryz.prog w = .ok (.tuple #[.string ⟨#[]⟩, .bool false]) w := fun z w => assert_no Tryz.underlying113 (fun m h => by cases h) (by kernel_rfl) (by decide)
  have a4 : ∀ (z : Value) (w : World), (Instr.typeAssert (.iface 122 z) 20 114 true).run Tryz.prog w = .ok (.tuple #[.string ⟨#[]⟩, .bool false]) w := fun z w => assert_no Tryz.underlying114 (fun m h => by cases h) (by kernel_rfl) (by decide)
  have a5 : ∀ (z : Value) (w : World), (Instr.typeAssert (.iface 122 z) 20 115 true).run Tryz.prog w = .ok (.tuple #[.bool false, .bool false]) w := fun z w => assert_no Tryz.underlying115 (fun m h => by cases h) (by kernel_rfl) (by decide)
  have a6 : ∀ (z : Value) (w : World), (Instr.typeAssert (.iface 122 z) 20 116 true).run Tryz.prog w = .ok (.tuple #[.slice none 0 0, .bool false]) w := fun z w => assert_no Tryz.underlying116 (fun m h => by cases h) (by kernel_rfl) (by decide)
  have a7 : ∀ (z : Value) (w : World), (Instr.typeAssert (.iface 122 z) 20 118 true).run Tryz.prog w = .ok (.tuple #[.slice none 0 0, .bool false]) w := fun z w => assert_no Tryz.underlying118 (fun m h => by cases h) (by kernel_rfl) (by decide)
  have a8 : ∀ (z : Value) (w : World), (Instr.typeAssert (.iface 122 z) 20 122 true).run Tryz.prog w = .ok (.tuple #[z, .bool true]) w := fun z w => assert_yes Tryz.underlying122 (fun m h => by cases h) (z := .agg #[.nilIface, .nilIface]) (by kernel_rfl)
  rcases hx with rfl | ⟨T, z, rfl⟩ <;> rcases hy with rfl | ⟨T', z', rfl⟩
  all_goals
    go_enter Tryz.func57, Tryz.ntmps57
    go_wp2
    go_ret
    exact ⟨rfl, by first | exact Below.refl _ _ | exact below1 w _ | exact below2 w _ _⟩

set_option maxRecDepth 100000 in
set_option maxHeartbeats 2000000 in
theorem isOf10 (c : Int) (s : ByteArray) (a : Int) (w : World) : Calls Tryz.prog 57 #[.iface 124 (.agg #[.int .i64 c, .string s]), .int .i64 a] w fun e w' => e = .returned (.bool (isK 10 a)) ∧ Below w.heap.size w w' := by
  have e : isK 10 a = (10 == a) := by simp [isK]
  rw [e]
  clear e
  have e : ((10 : Int) == a) = (a == 10) := by rw [Bool.eq_iff_iff]; simp; exact eq_comm
  rw [e]
  clear e
  have a0 : ∀ (z : Value) (w : World), (Instr.typeAssert (.iface 124 z) 20 108 true).run Tryz.prog w = .ok (.tuple #[.int .i64 0, .bool false]) w := fun z w => assert_no Tryz.underlying108 (fun m h => by cases h) (by kernel_rfl) (by decide)
  have a1 : ∀ (z : Value) (w : World), (Instr.typeAssert (.iface 124 z) 20 109 true).run Tryz.prog w = .ok (.tuple #[.int .i64 0, .bool false]) w := fun z w => assert_no Tryz.underlying109 (fun m h => by cases h) (by kernel_rfl) (by decide)
  have a2 : ∀ (z : Value) (w : World), (Instr.typeAssert (.iface 124 z) 20 111 true).run Tryz.prog w = .ok (.tuple #[.float .f64 0, .bool false]) w := fun z w => assert_no Tryz.underlying111 (fun m h => by cases h) (by kernel_rfl) (by decide)
  have a3 : ∀ (z : Value) (w : World), (Instr.typeAssert (.iface 124 z) 20 113 true).run Tryz.prog w = .ok (.tuple #[.string ⟨#[]⟩, .bool false]) w := fun z w => assert_no Tryz.underlying113 (fun m h => by cases h) (by kernel_rfl) (by decide)
  have a4 : ∀ (z : Value) (w : World), (Instr.typeAssert (.iface 124 z) 20 114 true).run Tryz.prog w = .ok (.tuple #[.string ⟨#[]⟩, .bool false]) w := fun z w => assert_no Tryz.underlying114 (fun m h => by cases h) (by kernel_rfl) (by decide)
  have a5 : ∀ (z : Value) (w : World), (Instr.typeAssert (.iface 124 z) 20 115 true).run Tryz.prog w = .ok (.tuple #[.bool false, .bool false]) w := fun z w => assert_no Tryz.underlying115 (fun m h => by cases h) (by kernel_rfl) (by decide)
  have a6 : ∀ (z : Value) (w : World), (Instr.typeAssert (.iface 124 z) 20 116 true).run Tryz.prog w = .ok (.tuple #[.slice none 0 0, .bool false]) w := fun z w => assert_no Tryz.underlying116 (fun m h => by cases h) (by kernel_rfl) (by decide)
  have a7 : ∀ (z : Value) (w : World), (Instr.typeAssert (.iface 124 z) 20 118 true).run Tryz.prog w = .ok (.tuple #[.slice none 0 0, .bool false]) w := fun z w => assert_no Tryz.underlying118 (fun m h => by cases h) (by kernel_rfl) (by decide)
  have a8 : ∀ (z : Value) (w : World), (Instr.typeAssert (.iface 124 z) 20 122 true).run Tryz.prog w = .ok (.tuple #[.agg #[.nilIface, .nilIface], .bool false]) w := fun z w => assert_no Tryz.underlying122 (fun m h => by cases h) (by kernel_rfl) (by decide)
  have a9 : ∀ (z : Value) (w : World), (Instr.typeAssert (.iface 124 z) 20 124 true).run Tryz.prog w = .ok (.tuple #[z, .bool true]) w := fun z w => assert_yes Tryz.underlying124 (fun m h => by cases h) (z := .agg #[.int .i64 0, .string ⟨#[]⟩]) (by kernel_rfl)
  go_enter Tryz.func57, Tryz.ntmps57
  go_wp2
  all_goals go_ret
  all_goals exact ⟨rfl, by first | exact Below.refl _ _ | exact below1 w _ | exact below2 w _ _⟩

set_option maxRecDepth 100000 in
set_option maxHeartbeats 2000000 in
theorem isOf13 (a : Int) (w : World) : Calls Tryz.prog 57 #[.iface 127 (.agg #[]), .int .i64 a] w fun e w' => e = .returned (.bool (isK 13 a)) ∧ Below w.heap.size w w' := by
  have e : isK 13 a = (13 == a) := by simp [isK]
  rw [e]
  clear e
  have e : ((13 : Int) == a) = (a == 13) := by rw [Bool.eq_iff_iff]; simp; exact eq_comm
  rw [e]
  clear e
  have a0 : ∀ (z : Value) (w : World), (Instr.typeAssert (.iface 127 z) 20 108 true).run Tryz.prog w = .ok (.tuple #[.int .i64 0, .bool false]) w := fun z w => assert_no Tryz.underlying108 (fun m h => by cases h) (by kernel_rfl) (by decide)
  have a1 : ∀ (z : Value) (w : World), (Instr.typeAssert (.iface 127 z) 20 109 true).run Tryz.prog w = .ok (.tuple #[.int .i64 0, .bool false]) w := fun z w => assert_no Tryz.underlying109 (fun m h => by cases h) (by kernel_rfl) (by decide)
  have a2 : ∀ (z : Value) (w : World), (Instr.typeAssert (.iface 127 z) 20 111 true).run Tryz.prog w = .ok (.tuple #[.float .f64 0, .bool false]) w := fun z w => assert_no Tryz.underlying111 (fun m h => by cases h) (by kernel_rfl) (by decide)
  have a3 : ∀ (z : Value) (w : World), (Instr.typeAssert (.iface 127 z) 20 113 true).run Tryz.prog w = .ok (.tuple #[.string ⟨#[]⟩, .bool false]) w := fun z w => assert_no Tryz.underlying113 (fun m h => by cases h) (by kernel_rfl) (by decide)
  have a4 : ∀ (z : Value) (w : World), (Instr.typeAssert (.iface 127 z) 20 114 true).run Tryz.prog w = .ok (.tuple #[.string ⟨#[]⟩, .bool false]) w := fun z w => assert_no Tryz.underlying114 (fun m h => by cases h) (by kernel_rfl) (by decide)
  have a5 : ∀ (z : Value) (w : World), (Instr.typeAssert (.iface 127 z) 20 115 true).run Tryz.prog w = .ok (.tuple #[.bool false, .bool false]) w := fun z w => assert_no Tryz.underlying115 (fun m h => by cases h) (by kernel_rfl) (by decide)
  have a6 : ∀ (z : Value) (w : World), (Instr.typeAssert (.iface 127 z) 20 116 true).run Tryz.prog w = .ok (.tuple #[.slice none 0 0, .bool false]) w := fun z w => assert_no Tryz.underlying116 (fun m h => by cases h) (by kernel_rfl) (by decide)
  have a7 : ∀ (z : Value) (w : World), (Instr.typeAssert (.iface 127 z) 20 118 true).run Tryz.prog w = .ok (.tuple #[.slice none 0 0, .bool false]) w := fun z w => assert_no Tryz.underlying118 (fun m h => by cases h) (by kernel_rfl) (by decide)
  have a8 : ∀ (z : Value) (w : World), (Instr.typeAssert (.iface 127 z) 20 122 true).run Tryz.prog w = .ok (.tuple #[.agg #[.nilIface, .nilIface], .bool false]) w := fun z w => assert_no Tryz.underlying122 (fun m h => by cases h) (by kernel_rfl) (by decide)
  have a9 : ∀ (z : Value) (w : World), (Instr.typeAssert (.iface 127 z) 20 124 true).run Tryz.prog w = .ok (.tuple #[.agg #[.int .i64 0, .string ⟨#[]⟩], .bool false]) w := fun z w => assert_no Tryz.underlying124 (fun m h => by cases h) (by kernel_rfl) (by decide)
  have a10 : ∀ (z : Value) (w : World), (Instr.typeAssert (.iface 127 z) 20 125 true).run Tryz.prog w = .ok (.tuple #[.pointer none, .bool false]) w := fun z w => assert_no Tryz.underlying125 (fun m h => by cases h) (by kernel_rfl) (by decide)
  have a11 : ∀ (z : Value) (w : World), (Instr.typeAssert (.iface 127 z) 20 127 true).run Tryz.prog w = .ok (.tuple #[z, .bool true]) w := fun z w => assert_yes Tryz.underlying127 (fun m h => by cases h) (z := .agg #[]) (by kernel_rfl)
  go_enter Tryz.func57, Tryz.ntmps57
  go_wp2
  all_goals go_ret
  all_goals exact ⟨rfl, by first | exact Below.refl _ _ | exact below1 w _ | exact below2 w _ _⟩

set_option maxRecDepth 100000 in
set_option maxHeartbeats 2000000 in
theorem isOf11 (p : Addr) (a : Int) (w : World) : Calls Tryz.prog 57 #[.iface 125 (.pointer (some p)), .int .i64 a] w fun e w' => e = .returned (.bool (isK 11 a)) ∧ Below w.heap.size w w' := by
  have e : isK 11 a = (a == 11) := by simp only [isK]; rw [Bool.eq_iff_iff]; simp; exact eq_comm
  rw [e]
  clear e
  have a0 : ∀ (z : Value) (w : World), (Instr.typeAssert (.iface 125 z) 20 108 true).run Tryz.prog w = .ok (.tuple #[.int .i64 0, .bool false]) w := fun z w => assert_no Tryz.underlying108 (fun m h => by cases h) (by kernel_rfl) (by decide)
  have a1 : ∀ (z : Value) (w : World), (Instr.typeAssert (.iface 125 z) 20 109 true).run Tryz.prog w = .ok (.tuple #[.int .i64 0, .bool false]) w := fun z w => assert_no Tryz.underlying109 (fun m h => by cases h) (by kernel_rfl) (by decide)
  have a2 : ∀ (z : Value) (w : World), (Instr.typeAssert (.iface 125 z) 20 111 true).run Tryz.prog w = .ok (.tuple #[.float .f64 0, .bool false]) w := fun z w => assert_no Tryz.underlying111 (fun m h => by cases h) (by kernel_rfl) (by decide)
  have a3 : ∀ (z : Value) (w : World), (Instr.typeAssert (.iface 125 z) 20 113 true).run Tryz.prog w = .ok (.tuple #[.string ⟨#[]⟩, .bool false]) w := fun z w => assert_no Tryz.underlying113 (fun m h => by cases h) (by kernel_rfl) (by decide)
  have a4 : ∀ (z : Value) (w : World), (Instr.typeAssert (.iface 125 z) 20 114 true).run Tryz.prog w = .ok (.tuple #[.string ⟨#[]⟩, .bool false]) w := fun z w => assert_no Tryz.underlying114 (fun m h => by cases h) (by kernel_rfl) (by decide)
  have a5 : ∀ (z : Value) (w : World), (Instr.typeAssert (.iface 125 z) 20 115 true).run Tryz.prog w = .ok (.tuple #[.bool false, .bool false]) w := fun z w => assert_no Tryz.underlying115 (fun m h => by cases h) (by kernel_rfl) (by decide)
  have a6 : ∀ (z : Value) (w : World), (Instr.typeAssert (.iface 125 z) 20 116 true).run Tryz.prog w = .ok (.tuple #[.slice none 0 0, .bool false]) w := fun z w => assert_no Tryz.underlying116 (fun m h => by cases h) (by kernel_rfl) (by decide)
  have a7 : ∀ (z : Value) (w : World), (Instr.typeAssert (.iface 125 z) 20 118 true).run Tryz.prog w = .ok (.tuple #[.slice none 0 0, .bool false]) w := fun z w => assert_no Tryz.underlying118 (fun m h => by cases h) (by kernel_rfl) (by decide)
  have a8 : ∀ (z : Value) (w : World), (Instr.typeAssert (.iface 125 z) 20 122 true).run Tryz.prog w = .ok (.tuple #[.agg #[.nilIface, .nilIface], .bool false]) w := fun z w => assert_no Tryz.underlying122 (fun m h => by cases h) (by kernel_rfl) (by decide)
  have a9 : ∀ (z : Value) (w : World), (Instr.typeAssert (.iface 125 z) 20 124 true).run Tryz.prog w = .ok (.tuple #[.agg #[.int .i64 0, .string ⟨#[]⟩], .bool false]) w := fun z w => assert_no Tryz.underlying124 (fun m h => by cases h) (by kernel_rfl) (by decide)
  have a10 : ∀ (z : Value) (w : World), (Instr.typeAssert (.iface 125 z) 20 125 true).run Tryz.prog w = .ok (.tuple #[z, .bool true]) w := fun z w => assert_yes Tryz.underlying125 (fun m h => by cases h) (z := .pointer none) (by kernel_rfl)
  cases h : (a == 11) with
  | true =>
    go_enter Tryz.func57, Tryz.ntmps57
    go_wp2
    all_goals go_ret
    all_goals exact ⟨rfl, by first | exact Below.refl _ _ | exact below1 w _ | exact below2 w _ _⟩
  | false =>
    cases h2 : (a == 12) <;> (go_enter Tryz.func57, Tryz.ntmps57; go_wp2; all_goals go_ret; all_goals exact ⟨rfl, by first | exact Below.refl _ _ | exact below1 w _ | exact below2 w _ _⟩)

set_option maxRecDepth 100000 in
set_option maxHeartbeats 2000000 in
theorem isOf12 (a : Int) (w : World) : Calls Tryz.prog 57 #[.iface 125 (.pointer none), .int .i64 a] w fun e w' => e = .returned (.bool (isK 12 a)) ∧ Below w.heap.size w w' := by
  have e : isK 12 a = (a == 11 || a == 12) := by simp only [isK]; rw [Bool.eq_iff_iff]; simp; omega
  rw [e]
  clear e
  have a0 : ∀ (z : Value) (w : World), (Instr.typeAssert (.iface 125 z) 20 108 true).run Tryz.prog w = .ok (.tuple #[.int .i64 0, .bool false]) w := fun z w => assert_no Tryz.underlying108 (fun m h => by cases h) (by kernel_rfl) (by decide)
  have a1 : ∀ (z : Value) (w : World), (Instr.typeAssert (.iface 125 z) 20 109 true).run Tryz.prog w = .ok (.tuple #[.int .i64 0, .bool false]) w := fun z w => assert_no Tryz.underlying109 (fun m h => by cases h) (by kernel_rfl) (by decide)
  have a2 : ∀ (z : Value) (w : World), (Instr.typeAssert (.iface 125 z) 20 111 true).run Tryz.prog w = .ok (.tuple #[.float .f64 0, .bool false]) w := fun z w => assert_no Tryz.underlying111 (fun m h => by cases h) (by kernel_rfl) (by decide)
  have a3 : ∀ (z : Value) (w : World), (Instr.typeAssert (.iface 125 z) 20 113 true).run Tryz.prog w = .ok (.tuple #[.string ⟨#[]⟩, .bool false]) w := fun z w => assert_no Tryz.underlying113 (fun m h => by cases h) (by kernel_rfl) (by decide)
  have a4 : ∀ (z : Value) (w : World), (Instr.typeAssert (.iface 125 z) 20 114 true).run Tryz.prog w = .ok (.tuple #[.string ⟨#[]⟩, .bool false]) w := fun z w => assert_no Tryz.underlying114 (fun m h => by cases h) (by kernel_rfl) (by decide)
  have a5 : ∀ (z : Value) (w : World), (Instr.typeAssert (.iface 125 z) 20 115 true).run Tryz.prog w = .ok (.tuple #[.bool false, .bool false]) w := fun z w => assert_no Tryz.underlying115 (fun m h => by cases h) (by kernel_rfl) (by decide)
  have a6 : ∀ (z : Value) (w : World), (Instr.typeAssert (.iface 125 z) 20 116 true).run Tryz.prog w = .ok (.tuple #[.slice none 0 0, .bool false]) w := fun z w => assert_no Tryz.underlying116 (fun m h => by cases h) (by kernel_rfl) (by decide)
  have a7 : ∀ (z : Value) (w : World), (Instr.typeAssert (.iface 125 z) 20 118 true).run Tryz.prog w = .ok (.tuple #[.slice none 0 0, .bool false]) w := fun z w => assert_no Tryz.underlying118 (fun m h => by cases h) (by kernel_rfl) (by decide)
  have a8 : ∀ (z : Value) (w : World), (Instr.typeAssert (.iface 125 z) 20 122 true).run Tryz.prog w = .ok (.tuple #[.agg #[.nilIface, .nilIface], .bool false]) w := fun z w => assert_no Tryz.underlying122 (fun m h => by cases h) (by kernel_rfl) (by decide)
  have a9 : ∀ (z : Value) (w : World), (Instr.typeAssert (.iface 125 z) 20 124 true).run Tryz.prog w = .ok (.tuple #[.agg #[.int .i64 0, .string ⟨#[]⟩], .bool false]) w := fun z w => assert_no Tryz.underlying124 (fun m h => by cases h) (by kernel_rfl) (by decide)
  have a10 : ∀ (z : Value) (w : World), (Instr.typeAssert (.iface 125 z) 20 125 true).run Tryz.prog w = .ok (.tuple #[z, .bool true]) w := fun z w => assert_yes Tryz.underlying125 (fun m h => by cases h) (z := .pointer none) (by kernel_rfl)
  cases h : (a == 11) with
  | true =>
    go_enter Tryz.func57, Tryz.ntmps57
    go_wp2
    all_goals go_ret
    all_goals exact ⟨rfl, by first | exact Below.refl _ _ | exact below1 w _ | exact below2 w _ _⟩
  | false =>
    cases h2 : (a == 12) <;> (go_enter Tryz.func57, Tryz.ntmps57; go_wp2; all_goals go_ret; all_goals exact ⟨rfl, by first | exact Below.refl _ _ | exact below1 w _ | exact below2 w _ _⟩)

theorem isOf_any (k a : Int) (u : Value) (w : World) (h : Kd k u) (k0 : 0 ≤ k) (k1 : k ≤ 13) : Calls Tryz.prog 57 #[u, .int .i64 a] w fun e w' => e = .returned (.bool (isK k a)) ∧ Below w.heap.size w w' := by
  rcases h.cases with ⟨h, rfl⟩ | ⟨rfl, v, rfl⟩ | ⟨rfl, v, rfl⟩ | ⟨rfl, v, rfl⟩ | ⟨rfl, v, rfl⟩ | ⟨rfl, v, rfl⟩ | ⟨rfl, v, rfl⟩ | ⟨rfl, v, rfl⟩ | ⟨rfl, v, rfl⟩ | ⟨rfl, x, y, rfl, hx, hy⟩ | ⟨rfl, c, s, rfl⟩ | ⟨rfl, p, rfl⟩ | ⟨rfl, rfl⟩ | ⟨rfl, rfl⟩
  · obtain rfl : k = 0 := by omega
    exact isOf0 a w
  · exact isOf1 v a w
  · exact isOf2 v a w
  · exact isOf3 v a w
  · exact isOf4 v a w
  · exact isOf5 v a w
  · exact isOf6 v a w
  · exact isOf7 v a w
  · exact isOf8 v a w
  · exact isOf9 x y hx hy a w
  · exact isOf10 c s a w
  · exact isOf11 p a w
  · exact isOf12 a w
  · exact isOf13 a w

/-- A pattern that is one kind. -/
theorem evk_two {w : World} {n : Nat} {t : Wt n} {o a : Int} {wd : Option Addr} {wl wc : Nat} (h : RepW w n [.int .i64 o, .int .i64 a, .slice wd wl wc] t) (ho : o = 2) (k : Int) : evk n t k = isK k a := by
  match n, t, h with
  | n + 1, t, h =>
    obtain ⟨ad, cap, e, -, -, -⟩ := h
    simp only [List.cons.injEq, Value.int.injEq, true_and, and_true] at e
    obtain ⟨e1, e2, -⟩ := e
    subst ho
    simp only [evk, ← e1, ← e2, isK]
    simp

set_option maxRecDepth 100000 in
set_option maxHeartbeats 2000000 in
theorem matches_any (x : Ro) (k i b : Int) (s : ByteArray) (ad : Option Addr) (len cap : Nat) (u : Value) (w : World) (h : RepW w x.n x.wv x.t) (hg : x.z = true ∨ wgt x.n x.t = true) (hu : Kd k u) (k0 : 0 ≤ k) (k1 : k ≤ 13) :
    Calls Tryz.prog 47 #[.agg #[.int .i64 x.o, .int .i64 x.a, .slice x.wd x.wl x.wc], .agg #[.int .i64 k, .int .i64 i, .int .u64 b, .string s, .slice ad len cap], u] w fun e w' => e = .returned (.bool (x.ty k)) ∧ Below w.heap.size w w' := by
  obtain ⟨f, n, t, o, a, wd, wl, wc, hh, e⟩ := x
  have h' : RepW w n [.int .i64 o, .int .i64 a, .slice wd wl wc] t := h
  have b1 := below1 w (.cells #[.int .i64 o, .int .i64 a, .slice wd wl wc] 43)
  have n1 := Bk.new w #[.int .i64 o, .int .i64 a, .slice wd wl wc] 43
  obtain ⟨w1, hw1⟩ : ∃ w1, w1 = w.alloc (.cells #[.int .i64 o, .int .i64 a, .slice wd wl wc] 43) := ⟨_, rfl⟩
  have b2 := below1 w1 (.cells #[.int .i64 k, .int .i64 i, .int .u64 b, .string s, .slice ad len cap] 26)
  have n2 := Bk.new w1 #[.int .i64 k, .int .i64 i, .int .u64 b, .string s, .slice ad len cap] 26
  rw [← hw1] at b1 n1
  have z1 : w1.heap.size = w.heap.size + 1 := by rw [hw1]; simp
  have n1' := n1.below b2
  obtain ⟨w2, hw2⟩ : ∃ w2, w2 = w1.alloc (.cells #[.int .i64 k, .int .i64 i, .int .u64 b, .string s, .slice ad len cap] 26) := ⟨_, rfl⟩
  rw [← hw2] at b2 n2 n1'
  have B := b1.trans (b2.mono (by omega))
  rw [z1] at n2
  have HV := Lib.hid hw1.symm
  have HW := Lib.hid hw2.symm
  have HZ : Hid (∀ wx, Below w2.heap.size w2 wx → Calls Tryz.prog 56 #[.agg #[.int .i64 o, .int .i64 a, .slice wd wl wc]] wx fun e w' => e = .returned (.bool (o == 0 && a == 0 && wl == 0)) ∧ Below w2.heap.size w2 w') := fun wx hx => (isNone_any o a wd wl wc wx).mono fun e w' ⟨p, q⟩ => ⟨p, hx.trans (q.mono hx.size)⟩
  have HM : Hid (∀ wx, wgt n t = true → Below w2.heap.size w2 wx → Calls Tryz.prog 58 #[.agg #[.int .i64 o, .int .i64 a, .slice wd wl wc], .agg #[.int .i64 k, .int .i64 i, .int .u64 b, .string s, .slice ad len cap]] wx fun e w' => e = .returned (.bool (evk n t k)) ∧ Below w2.heap.size w2 w') := fun wx hg hx =>
    (holdsP n t _ _ _ k i b s ad len cap wx (RepW.below hx n _ _ (RepW.below B n _ _ h')) hg k0 k1).mono fun e w' ⟨p, q⟩ => ⟨p, hx.trans (q.mono hx.size)⟩
  have HI : Hid (∀ wx, (o == 2) = true → Below w2.heap.size w2 wx → Calls Tryz.prog 57 #[u, .int .i64 a] wx fun e w' => e = .returned (.bool (evk n t k)) ∧ Below w2.heap.size w2 w') := fun wx ho hx => by
    rw [evk_two h' (by simpa using ho)]
    exact (isOf_any k a u wx hu k0 k1).mono fun e w' ⟨p, q⟩ => ⟨p, hx.trans (q.mono hx.size)⟩
  have HN := Lib.hid n1'
  have HD := Lib.hid n2
  obtain ⟨c1, c2, c3⟩ := n1'.c3
  obtain ⟨d0, d1, d2, d3, d4⟩ := n2.c5
  have hz : (⟨f, n, t, o, a, wd, wl, wc, hh, e⟩ : Ro).z = (o == 0 && a == 0 && wl == 0) := rfl
  unfold Ro.ty
  rw [hz] at hg ⊢
  show Calls _ _ #[.agg #[.int .i64 o, .int .i64 a, .slice wd wl wc], _, _] _ fun e w' => e = .returned (.bool ((o == 0 && a == 0 && wl == 0) || evk n t k)) ∧ Below w.heap.size w w'
  generalize (o == 0 && a == 0 && wl == 0) = z at HZ hg ⊢
  generalize evk n t k = ev at HM HI ⊢
  clear h h' hw1 hw2 n1 n2 n1' b1 b2 hz k0 k1 hu
  cases z with
  | true =>
    clear HM HI hg
    go_enter Tryz.func47, Tryz.ntmps47
    go_wp2_with (first | rw [HV.out] | rw [HW.out])
    refine (HZ.out _ (Below.refl _ _)).mono ?_
    rintro e w3 ⟨rfl, b3⟩
    clear c1 c2 c3 d0 d1 d2 d3 d4
    go_wp2_with fail
    go_ret
    exact ⟨rfl, B.trans (b3.mono B.size)⟩
  | false =>
    have hg' : wgt n t = true := by simpa using hg
    clear hg
    cases h2 : (o == 2) with
    | true =>
      go_enter Tryz.func47, Tryz.ntmps47
      go_wp2_with (first | rw [HV.out] | rw [HW.out])
      refine (HZ.out _ (Below.refl _ _)).mono ?_
      rintro e w3 ⟨rfl, b3⟩
      clear c1 c2 c3 d0 d1 d2 d3 d4
      obtain ⟨c1, c2, c3⟩ := (HN.out.below b3).c3
      go_wp2_with fail
      refine (HI.out _ h2 b3).mono ?_
      rintro e w4 ⟨rfl, b4⟩
      go_wp2_with fail
      go_ret
      exact ⟨rfl, B.trans (b4.mono B.size)⟩
    | false =>
      go_enter Tryz.func47, Tryz.ntmps47
      go_wp2_with (first | rw [HV.out] | rw [HW.out])
      refine (HZ.out _ (Below.refl _ _)).mono ?_
      rintro e w3 ⟨rfl, b3⟩
      clear c1 c2 c3 d0 d1 d2 d3 d4
      obtain ⟨c1, c2, c3⟩ := (HN.out.below b3).c3
      obtain ⟨d0, d1, d2, d3, d4⟩ := (HD.out.below b3).c5
      go_wp2_with fail
      refine (HM.out _ hg' b3).mono ?_
      rintro e w4 ⟨rfl, b4⟩
      go_wp2_with fail
      go_ret
      exact ⟨rfl, B.trans (b4.mono B.size)⟩

/-- What came of holding a route against a message. -/
def fo (tp : Bs) (k : Int) (x : Ro) : Int := if x.tp tp = false then 0 else if x.ty k = false then 1 else 2
theorem fo_ag (tp : Bs) (k : Int) (x : Ro) : (fo tp k x == 2) = x.ag tp k := by
  unfold fo Ro.ag
  cases x.tp tp <;> cases x.ty k <;> rfl
end Go.Proofs.YtkgbpildikjoiaaGreatDoor
namespace Go.Proofs.YtkgbpildikjoiaaGreatDoor
open Go.RowKit Tp Go.Shelf
attribute [local go_sem] Oper.semAt_some

set_option maxRecDepth 100000 in
set_option maxHeartbeats 2000000 in
theorem foundOf_any (x : Ro) (m : Mg) (u : Value) (w : World) (h : RepW w x.n x.wv x.t) (hs : x.f.size ≤ maxLen) (hg : x.z = true ∨ wgt x.n x.t = true) (hu : Kd m.k u) (hkk : 0 ≤ m.k ∧ m.k ≤ 13) (hmt : m.tp.size ≤ 9223372036854775807) (hT : Tabs w) :
    Calls Tryz.prog 39 #[x.ca, .agg m.cs, u] w fun e w' => e = .returned (.int .i64 (fo (tl m.tp) m.k x)) ∧ Below w.heap.size w w' := by
  obtain ⟨f, n, t, o, a, wd, wl, wc, hh, xe⟩ := x
  have h' : RepW w n [.int .i64 o, .int .i64 a, .slice wd wl wc] t := h
  obtain ⟨w1, HV, b1, n1, z1⟩ := bx6 w f o a wd wl wc hh xe
  have b2 := below1 w1 (.cells m.cs 28)
  have n2 := Bk.new w1 m.cs 28
  have n1' := n1.below b2
  obtain ⟨w2, hw2⟩ : ∃ w2, w2 = w1.alloc (.cells m.cs 28) := ⟨_, rfl⟩
  rw [← hw2] at b2 n2 n1'
  rw [z1] at n2
  have HW := Lib.hid hw2.symm
  have B := b1.trans (b2.mono (by omega))
  have HMA : Hid (∀ wx, Below w2.heap.size w2 wx → Calls Tryz.prog 46 #[.string f, .string m.tp] wx fun e w' => e = .returned (.bool ((⟨f, n, t, o, a, wd, wl, wc, hh, xe⟩ : Ro).tp (tl m.tp))) ∧ Below w2.heap.size w2 w') := fun wx hx => (match_any f m.tp wx (by unfold maxLen at hs; simp only at hs; omega) hmt ((hT.below B).below hx)).mono fun e w' ⟨p, q⟩ => ⟨p, hx.trans (q.mono hx.size)⟩
  have HTY : Hid (∀ wx, Below w2.heap.size w2 wx → Calls Tryz.prog 47 #[.agg #[.int .i64 o, .int .i64 a, .slice wd wl wc], .agg #[.int .i64 m.k, .int .i64 m.i, .int .u64 m.u, .string m.s, .slice m.a m.l m.c], u] wx fun e w' => e = .returned (.bool ((⟨f, n, t, o, a, wd, wl, wc, hh, xe⟩ : Ro).ty m.k)) ∧ Below w2.heap.size w2 w') := fun wx hx => (matches_any ⟨f, n, t, o, a, wd, wl, wc, hh, xe⟩ m.k m.i m.u m.s m.a m.l m.c u wx (RepW.below hx _ _ _ (RepW.below B _ _ _ h')) hg hu hkk.1 hkk.2).mono fun e w' ⟨p, q⟩ => ⟨p, hx.trans (q.mono hx.size)⟩
  have HN := Lib.hid n1'
  have HD := Lib.hid n2
  obtain ⟨c0, -, -, -, -, -⟩ := n1'.c6
  obtain ⟨-, m1, -⟩ := n2.c13
  unfold fo
  generalize (⟨f, n, t, o, a, wd, wl, wc, hh, xe⟩ : Ro).ty m.k = ty at HTY ⊢
  generalize (⟨f, n, t, o, a, wd, wl, wc, hh, xe⟩ : Ro).tp (tl m.tp) = mt at HMA ⊢
  clear h h' hs hg hu hkk hmt hT hw2 n1 n2 n1' b1 b2
  cases mt with
  | false =>
    go_enter Tryz.func39, Tryz.ntmps39
    go_wp2_with (first | rw [HV.out] | rw [HW.out])
    refine (HMA.out _ (Below.refl _ _)).mono ?_
    rintro e w3 ⟨rfl, b3⟩
    clear c0 m1
    go_wp2_with fail
    go_ret
    exact ⟨rfl, B.trans (b3.mono B.size)⟩
  | true =>
    go_enter Tryz.func39, Tryz.ntmps39
    go_wp2_with (first | rw [HV.out] | rw [HW.out])
    refine (HMA.out _ (Below.refl _ _)).mono ?_
    rintro e w3 ⟨rfl, b3⟩
    clear c0 m1
    obtain ⟨-, c1, c2, c3, -, -⟩ := (HN.out.below b3).c6
    obtain ⟨-, -, m2, m3, m4, m5, m6, -⟩ := (HD.out.below b3).c13
    go_wp2_with fail
    refine (HTY.out _ b3).mono ?_
    rintro e w4 ⟨rfl, b4⟩
    clear c1 c2 c3 m2 m3 m4 m5 m6
    cases ty <;> (go_wp2_with fail; go_ret; exact ⟨rfl, B.trans (b4.mono B.size)⟩)

/-- What the iterator hands over at a place. -/
def foj (tp : Bs) (k : Int) (L : List Ro) (j : Nat) : Int := match L[j]? with
  | some x => fo tp k x
  | none => 0
abbrev enc2 (tp : Bs) (k : Int) (L : List Ro) (j : Nat) : Array Value := #[.int .i64 j, .int .i64 (foj tp k L j)]

theorem same_below {w w' : World} {k : Nat} {o : Obj} (h : w.heap[k]? = some o) (hb : Below w.heap.size w w') : w'.heap[k]? = some o := (hb.block k (Array.getElem?_eq_some_iff.1 h).1).trans h

set_option maxRecDepth 100000 in
set_option maxHeartbeats 4000000 in
theorem iter_gives (L : List Ro) (ad : Option Addr) (cap : Nat) (m : Mg) (u : Value) (ws w : World) (h : Rs ws ad L) (hl : L.length ≤ 800) (hk : ∀ x ∈ L, x.ok = true) (hkk : 0 ≤ m.k ∧ m.k ≤ 13) (hmt : m.tp.size ≤ 9223372036854775807) (hT : Tabs ws) (hu : Kd m.k u) (hb : Below ws.heap.size ws w)
    (K : Nat → Prop) (Bl Bm Bu : Nat) (kl : K Bl) (km : K Bm) (ku : K Bu) (bl : Bk w Bl #[.slice ad L.length cap] 22) (bm : Bk w Bm m.cs 28) (bu : Bk w Bu #[u] 20) :
    Gives Tryz.prog 4 38 #[.pointer (some ⟨Bl, 0, none⟩), .pointer (some ⟨Bm, 0, none⟩), .pointer (some ⟨Bu, 0, none⟩)] (enc2 (tl m.tp) m.k L) ws.heap.size K L.length w := by
  intro l J W hW hJ hY h0
  refine callsIn_of_wp Tryz.func38 rfl trivial ?_ rfl
  simp only [Tryz.ntmps38, List.size_toArray, List.length_cons, List.length_nil, Nat.reduceAdd, Nat.reduceSub, Array.replicate_succ, Array.replicate_zero, List.push_toArray, List.append_toArray, List.nil_append, List.cons_append]
  have HS := Lib.hid h
  have HK := Lib.hid hk
  have HT := Lib.hid hT
  have HJ := Lib.hid hJ
  have HY := Lib.hid hY
  have HB0 : Below ws.heap.size ws W := hb.trans (hW.mono hb.size)
  have BL := Lib.hid (bl.below hW)
  have BM := Lib.hid (bm.below hW)
  have BU := Lib.hid (bu.below hW)
  have c0 := BL.out.c 0
  clear h hk hT hJ hY hb bl bm bu
  gi_wp2
  gi_loopw [9] (fun i wr => ∃ j : Nat, j ≤ L.length ∧ i = .int .i64 j ∧ J j wr ∧ Below ws.heap.size ws wr ∧ Bk wr Bl #[.slice ad L.length cap] 22 ∧ Bk wr Bm m.cs 28 ∧ Bk wr Bu #[u] 20)
    (fun i _ => L.length - (intOf i).toNat)
  case atStart => exact ⟨0, Nat.zero_le _, rfl, h0, HB0, BL.out, BM.out, BU.out⟩
  case round =>
    clear c0
    obtain ⟨j, hj, rfl, hJs, hB, bl, bm, bu⟩ := hrel
    by_cases hlt : j < L.length
    · obtain ⟨x, hx⟩ : ∃ x, L[j]? = some x := ⟨_, List.getElem?_eq_getElem hlt⟩
      obtain ⟨b, of, rfl, cc, rr, sz⟩ := (HS.out.below hB).at j x hx
      have hg := ok_right (HK.out x (List.mem_of_getElem? hx))
      have hfo : foj (tl m.tp) m.k L j = fo (tl m.tp) m.k x := by simp only [foj, hx]
      have HF0 : Hid (∀ wx, Below wr.heap.size wr wx → Calls Tryz.prog 39 #[x.ca, .agg m.cs, u] wx fun e w' => e = .returned (.int .i64 (foj (tl m.tp) m.k L j)) ∧ Below wx.heap.size wx w') := fun wx hx => by
        rw [hfo]; exact foundOf_any x m u wx (RepW.below hx _ _ _ rr) sz hg hu hkk hmt ((HT.out.below hB).below hx)
      obtain ⟨f, n, t, o, a, wd, wl, wc, hh, xe⟩ := x
      obtain ⟨c0, c1, c2, c3, c4, c5⟩ := cc
      obtain ⟨w3, HW3, b3, n3, z3⟩ := bx6 wr f o a wd wl wc hh xe
      obtain ⟨k0, k1, k2, k3, k4, k5⟩ := n3.c6
      simp only at c0 c1 c2 c3 c4 c5
      obtain ⟨m0, m1, m2, m3, m4, m5, m6, m7, m8, m9, m10, m11, m12⟩ := (bm.below b3).c13
      have u0 := (bu.below b3).c 0
      have HF := Lib.hid (HF0.out _ b3)
      have BL1 := Lib.hid (bl.below b3)
      have BM1 := Lib.hid (bm.below b3)
      have BU1 := Lib.hid (bu.below b3)
      have B3 : Below ws.heap.size ws w3 := hB.trans (b3.mono hB.size)
      have HJ1 := Lib.hid (HJ.out _ _ _ hJs b3)
      have hjl : (j : Int) < (L.length : Int) := by omega
      have HX := Lib.hid hx
      clear hx rr sz hg hfo n3 z3 bl bm bu hJs HF0
      have HYj : Hid (∀ A, J j A → YieldAt Fence.wide 3 Tryz.prog l #[.int .i64 j, .int .i64 (foj (tl m.tp) m.k L j)] A fun e A' => e = .returned (.bool true) ∧ J (j + 1) A' ∧ Below ws.heap.size A A' ∧ ∀ k, K k → A'.heap[k]? = A.heap[k]?) := fun A hA => HY.out j A hlt hA
      generalize foj (tl m.tp) m.k L j = fj at HF HYj
      gi_wp2_with (rw [HW3.out])
      refine ⟨trivial, (callsIn_wide.2 HF.out).mono ?_⟩
      rintro e4 w4 ⟨rfl, b4⟩
      clear c0 c1 c2 c3 c4 c5 k0 k1 k2 k3 k4 k5 m0 m1 m2 m3 m4 m5 m6 m7 m8 m9 m10 m11 m12 u0
      obtain ⟨fn, tmps, assign, body, hy, hR⟩ := HYj.out w4 (HJ.out _ _ _ HJ1.out b4)
      have HR := Lib.hid hR
      have BL2 := Lib.hid (BL1.out.below b4)
      have BM2 := Lib.hid (BM1.out.below b4)
      have BU2 := Lib.hid (BU1.out.below b4)
      have B4 : Below ws.heap.size ws w4 := B3.trans (b4.mono B3.size)
      clear hR
      gi_wp2
      refine HR.out.mono ?_
      rintro e5 w5 ⟨rfl, hJ5, b5, k5⟩
      gi_wp2
      go_roundw
      case rel => exact ⟨j + 1, by omega, by go_num, hJ5, B4.trans b5, (k5 _ kl).trans BL2.out, (k5 _ km).trans BM2.out, (k5 _ ku).trans BU2.out⟩
      case measure => simp [intOf]; omega
    · obtain rfl : j = L.length := by omega
      gi_wp2
      go_end0
      exact ⟨⟨_, rfl⟩, hJs⟩

set_option maxRecDepth 100000 in
set_option maxHeartbeats 1000000 in
theorem inOrder_any (n : Nat) (ad : Option Addr) (len cap : Nat) (m : Mg) (w : World) :
    CallsIn Fence.wide n Tryz.prog 21 #[.slice ad len cap, .agg m.cs] w fun e w' => ∃ Bl Bm Bu u, e = .returned (.func (.func 38) #[] #[.pointer (some ⟨Bl, 0, none⟩), .pointer (some ⟨Bm, 0, none⟩), .pointer (some ⟨Bu, 0, none⟩)]) ∧ w.heap.size ≤ Bl ∧ w.heap.size ≤ Bm ∧ w.heap.size ≤ Bu ∧ Bk w' Bl #[.slice ad len cap] 22 ∧ Bk w' Bm m.cs 28 ∧ Bk w' Bu #[u] 20 ∧ Kd m.k u ∧ Below w.heap.size w w' := by
  refine callsIn_wide.2 ?_
  have b1 := below1 w (.cells #[.slice ad len cap] 22)
  have n1 := Bk.new w #[.slice ad len cap] 22
  obtain ⟨w1, hw1⟩ : ∃ w1, w1 = w.alloc (.cells #[.slice ad len cap] 22) := ⟨_, rfl⟩
  rw [← hw1] at b1 n1
  have z1 : w1.heap.size = w.heap.size + 1 := by rw [hw1]; simp
  have b2 := below1 w1 (.cells m.cs 28)
  have n2 := Bk.new w1 m.cs 28
  obtain ⟨w2, hw2⟩ : ∃ w2, w2 = w1.alloc (.cells m.cs 28) := ⟨_, rfl⟩
  rw [← hw2] at b2 n2
  rw [z1] at n2
  have z2 : w2.heap.size = w.heap.size + 1 + 1 := by rw [hw2, World.size_alloc, z1]
  have HV := Lib.hid hw1.symm
  have HW := Lib.hid hw2.symm
  have HO := Lib.hid (ofKind_any m.k w2)
  obtain ⟨-, -, m2, -⟩ := n2.c13
  have N1 := Lib.hid (n1.below b2)
  have N2 := Lib.hid n2
  have B := b1.trans (b2.mono (by omega))
  clear hw1 hw2 n1 n2 b1 b2
  go_enter Tryz.func21, Tryz.ntmps21
  go_wp2_with (first | rw [HV.out] | rw [HW.out])
  refine HO.out.mono ?_
  rintro e w3 ⟨u, rfl, hu, b3⟩
  clear m2
  have hs := b3.size
  have b4 := below1 w3 (.cells #[u] 20)
  have n4 := Bk.new w3 #[u] 20
  rcases hu.sx with rfl | ⟨T, z, rfl⟩
  all_goals
    go_wp2_with fail
    go_ret
    exact ⟨_, _, _, _, rfl, Nat.le_refl _, by omega, by omega, (N1.out.below b3).below b4, (N2.out.below b3).below b4, n4, hu, (B.trans (b3.mono B.size)).trans (b4.mono (by have := B.size; omega))⟩
end Go.Proofs.YtkgbpildikjoiaaGreatDoor
namespace Go.Proofs.YtkgbpildikjoiaaGreatDoor
open Go.RowKit Tp Go.Shelf
attribute [local go_sem] Oper.semAt_some

/-- What an append to a row of one's own makes: the row itself, or one in new memory. -/
theorem run_append_near {P : Program} (w : World) (base : Nat) (t ty e : TypeId) (i : TypeInfo) (z : Value) (size bytes : Nat) (ht : P.underlying t = some (.slice e)) (hi : P.info? e = some i) (hz : i.zero = some z)
    (hsize : i.size = size) (hby : i.bytes = bytes) (hzs : z.cells.size = size) (hsz : 0 < size)
    (v : Value) (n : Nat) (xs : List Value) (hown : w.ownsRow base e size v n xs)
    (a : Addr) (m c : Nat) (news : List Value) (hl : news.length = m * size) (hnews : ∀ j u, news[j]? = some u → w.cell? (a.add j) = some u) (h1 : ∀ u ∈ news, u.oneCell' = true)
    (h63 : n + m ≤ maxLen) (hbytes : (n + m) * bytes ≤ 140737488355328) (hbase : base ≤ w.heap.size) :
    ∃ v' w', (Builtin.append_ #[t, t] ty #[v, .slice (some a) m c]).run P w = .ok v' w' ∧ w'.ownsRow base e size v' (n + m) (xs ++ news) ∧ w.grownBy w' v.ownBlock ∧ (v'.ownBlock = v.ownBlock ∨ ∃ g, v'.ownBlock = some g ∧ w.heap.size ≤ g) := by
  obtain ⟨v', w', hrun, r1, r2, -⟩ := run_append_own (P := P) w base t ty e i z size bytes ht hi hz hsize hby hzs hsz v n xs hown a m c news hl hnews h1 h63 hbytes hbase
  refine ⟨v', w', hrun, r1, r2, ?_⟩
  subst hsize
  subst hby
  rcases hown.2 with ⟨rfl, rfl⟩ | ⟨g, cap, cur, rfl, hbg, hg, hnc, hcm, hcs, htake⟩
  · obtain ⟨v2, w2, hrun2, q1, q2, -⟩ := run_append_own (P := P) w w.heap.size t ty e i z i.size i.bytes ht hi hz rfl rfl hzs hsz (.slice none 0 0) 0 xs ⟨hown.1, .inl ⟨rfl, rfl⟩⟩ a m c news hl hnews h1 h63 hbytes (Nat.le_refl _)
    rw [hrun] at hrun2
    obtain ⟨rfl, rfl⟩ : v' = v2 ∧ w' = w2 := by injection hrun2 with e1 e2; exact ⟨e1, e2⟩
    cases ho : v'.ownBlock with
    | none => exact .inl rfl
    | some g => exact .inr ⟨g, rfl, (q1.lt g ho).1⟩
  · by_cases hroom : n + m ≤ cap
    · have hfit : n * i.size + news.length ≤ cur.size := by rw [hl, hcs, ← Nat.add_mul]; exact Nat.mul_le_mul_right _ hroom
      have hr := run_append_room (P := P) w t ty e i ht hi g n cap cur hg a m c news hl hnews h1 hroom hfit
      rw [hrun] at hr
      injection hr with e1 e2
      rw [e1]
      exact .inl rfl
    · have hsmall : n + m ≤ 9223372036854775807 := by simp only [maxLen] at h63; omega
      have holds : ∀ j u, xs[j]? = some u → w.cell? ((⟨g, 0, none⟩ : Addr).add j) = some u := hown.cells (g := g) rfl
      have hr := run_append_grow (P := P) w t ty e i z ht hi hz ⟨g, 0, none⟩ n cap xs hown.1 holds a m c news hl hnews (by omega) (by omega) (growslice_fits (by omega) hbytes)
      rw [hrun] at hr
      injection hr with e1 e2
      rw [e1]
      exact .inr ⟨_, rfl, Nat.le_refl _⟩

theorem wpListIn_append_near {F : Fence} {n : Nat} {P : Program} (w : World) {ops : Array Oper} {rest : List Oper} {o : Oper} {a : Act} {Q : Exit → Act → World → Prop}
    (hg : o.guard = none) (s x : Operand) (t : TypeId) (hop : o.op = Op.call { callee := Callee.builtin Builtin.append, args := #[s, x], argTypes := #[t, t] })
    (base : Nat) (e : TypeId) (i : TypeInfo) (z : Value) (size bytes : Nat) (h1 : P.underlying t = some (.slice e)) (h2 : P.info? e = some i) (h3 : i.zero = some z) (h4 : i.size = size) (h5 : i.bytes = bytes) (h6 : z.cells.size = size) (h7 : 0 < size)
    (v : Value) (k : Nat) (xs : List Value) (hs : a.eval s = v) (hown : w.ownsRow base e size v k xs) (ad : Addr) (m c : Nat) (news : List Value) (hx : a.eval x = .slice (some ad) m c) (hn : news.length = m * size)
    (hc : ∀ j u, news[j]? = some u → w.cell? (ad.add j) = some u) (h1c : ∀ u ∈ news, u.oneCell' = true) (b1 : k + m ≤ maxLen) (b2 : (k + m) * bytes ≤ 140737488355328) (b3 : base ≤ w.heap.size)
    (hK : ∀ v' w', w'.ownsRow base e size v' (k + m) (xs ++ news) → w.grownBy w' v.ownBlock → (v'.ownBlock = v.ownBlock ∨ ∃ g, v'.ownBlock = some g ∧ w.heap.size ≤ g) → wpListIn F n P ops Q rest (a.put o.dst v') w') :
    wpListIn F n P ops Q (o :: rest) a w := by
  refine wpListIn_plain hg fun K hK' => ?_
  obtain ⟨v', w', hrun, r1, r2, r3⟩ := run_append_near (P := P) w base t o.type e i z size bytes h1 h2 h3 h4 h5 h6 h7 v k xs hown ad m c news hn hc h1c b1 b2 b3
  unfold Oper.wpIn
  refine ⟨?_, ?_⟩
  · simp [Oper.about, hop, resolve, Target.leads, Sem.run_pure]
  · rw [Oper.semAt_plain F _ _ (by rw [hop]; intro c hc'; cases hc')]
    simp [execOp, hop, resolve, invoke, builtin, hs, hx, hrun, Result.andThen]
    exact hK' _ _ (hK v' w' r1 r2 r3)

theorem Bk.put {w : World} {N : Nat} {cs : Array Value} {T : TypeId} (h : Bk w N cs T) {k : Nat} {o o' : Obj} (hk : w.heap[k]? = some o) (hc : o.isCells = false) : Bk (w.putObj k o') N cs T := by
  refine (World.putObj_heap_other (fun e => ?_)).trans h
  subst e
  rw [show w.heap[N]? = some (.cells cs T (0, 0)) from h] at hk
  cases hk
  cases hc
theorem own_cells {w : World} {base : Nat} {e : TypeId} {s n : Nat} {v : Value} {xs : List Value} (h : w.ownsRow base e s v n xs) {g : Nat} (hg : v.ownBlock = some g) : ∃ o : Obj, w.heap[g]? = some o ∧ o.isCells = true := by
  obtain ⟨_, ⟨rfl, rfl⟩ | ⟨g', cap, cur, rfl, _, h2, _⟩⟩ := h
  · cases hg
  · simp only [Value.ownBlock, Option.some.injEq] at hg
    subst hg
    exact ⟨_, h2, rfl⟩
theorem own_put {w : World} {base : Nat} {e : TypeId} {s n : Nat} {v : Value} {xs : List Value} (h : w.ownsRow base e s v n xs) {k : Nat} {o o' : Obj} (hk : w.heap[k]? = some o) (hc : o.isCells = false) : (w.putObj k o').ownsRow base e s v n xs := by
  refine World.ownsRow.kept (row := some k) h (grownBy_putObj' w k o') ?_
  cases ho : v.ownBlock with
  | none => exact .inl rfl
  | some g =>
    refine .inr fun e => ?_
    injection e with e
    subst e
    obtain ⟨o2, h2, c2⟩ := own_cells h ho
    rw [h2] at hk
    cases hk
    rw [c2] at hc
    cases hc

theorem own_set {w : World} {base : Nat} {e : TypeId} {s n : Nat} {v : Value} {xs : List Value} (h : w.ownsRow base e s v n xs) {N : Nat} (hN : N < base) (o : Nat) (x : Value) : (w.setCell ⟨N, o, none⟩ x).ownsRow base e s v n xs := by
  refine World.ownsRow.kept (row := some N) h ⟨rfl, rfl, rfl, by simp, fun k _ hk => Below.heap_setCell _ _ _ _ (fun e => hk (by simp [e]))⟩ ?_
  refine .inr fun e => ?_
  have := (h.lt _ e).1
  omega

/-- Find on its way: the routes' box, the result's, the two boxes of what was found, the two rows. -/
structure Fv (N B : Nat) (lc : Array Value) (v0 v1 : Value) (p q : List Nat) (w wx : World) : Prop where
  below : Below N w wx
  sz : B ≤ wx.heap.size
  l : Bk wx N lc 22
  r : Bk wx (N + 1 + 1) #[.slice none 0 0, .bool false] 33
  f : Bk wx (N + 1 + 1 + 1) #[v0] 31
  e : Bk wx (N + 1 + 1 + 1 + 1) #[v1] 31
  o0 : wx.ownsRow B 3 1 v0 p.length (nv p)
  o1 : wx.ownsRow B 3 1 v1 q.length (nv q)
  ne : ∀ g, v0.ownBlock = some g → v1.ownBlock = some g → False
theorem Fv.step {N B : Nat} {lc : Array Value} {v0 v1 : Value} {p q : List Nat} {w wx wy : World} (h : Fv N B lc v0 v1 p q w wx) (hN : N ≤ B) (hb : Below wx.heap.size wx wy) : Fv N B lc v0 v1 p q w wy :=
  ⟨h.below.trans (hb.mono (by have := h.sz; omega)), Nat.le_trans h.sz hb.size, h.l.below hb, h.r.below hb, h.f.below hb, h.e.below hb, own_below h.o0 hb, own_below h.o1 hb, h.ne⟩
theorem Fv.put {N B : Nat} {lc : Array Value} {v0 v1 : Value} {p q : List Nat} {w wx : World} (h : Fv N B lc v0 v1 p q w wx) (hN : N ≤ B) {k : Nat} {o o' : Obj} (hk : wx.heap[k]? = some o) (hc : o.isCells = false) (hB : B ≤ k) : Fv N B lc v0 v1 p q w (wx.putObj k o') :=
  ⟨h.below.trans (below_put wx k o' N (by omega) (Array.getElem?_eq_some_iff.1 hk).1), by simp; exact h.sz, h.l.put hk hc, h.r.put hk hc, h.f.put hk hc, h.e.put hk hc, own_put h.o0 hk hc, own_put h.o1 hk hc, h.ne⟩

/-- What a round turns. -/
theorem keeps_round {N B : Nat} {own : Option Nat} {wx wy : World} (hB : N + 5 ≤ B) (hs : wx.heap.size ≤ wy.heap.size) (hk : ∀ k, k < wx.heap.size → k ≠ N + 1 + 1 + 1 → k ≠ N + 1 + 1 + 1 + 1 → own ≠ some k → wy.heap[k]? = wx.heap[k]?) (ho : ∀ g, own = some g → B ≤ g ∧ ∃ o : Obj, wx.heap[g]? = some o ∧ o.isCells = true) (hBx : B ≤ wx.heap.size) :
    (∀ k, (k < B ∧ k ≠ N + 1 + 1 + 1 ∧ k ≠ N + 1 + 1 + 1 + 1) → wy.heap[k]? = wx.heap[k]?) ∧ KeepsFrom B wx wy := by
  refine ⟨fun k hk2 => hk k (by omega) hk2.2.1 hk2.2.2 (fun e => by have := (ho k e).1; omega), ⟨hs, fun k o hb h1 h2 => ?_⟩⟩
  refine (hk k (Array.getElem?_eq_some_iff.1 h1).1 (by omega) (by omega) (fun e => ?_)).trans h1
  obtain ⟨-, o2, h3, h4⟩ := ho k e
  rw [h1] at h3
  cases h3
  rw [h2] at h4
  cases h4

/-- One more place in the first row. -/
theorem Fv.app0 {N B j : Nat} {lc : Array Value} {v0 v1 v' x : Value} {p q : List Nat} {T : TypeId} {w wx w5 wy : World} (h : Fv N B lc v0 v1 p q w wx) (hB : N + 5 ≤ B) (hg : (wx.alloc (.cells #[x] T)).grownBy w5 v0.ownBlock) (ho : w5.ownsRow B 3 1 v' (p ++ [j]).length (nv (p ++ [j]))) (hn : v'.ownBlock = v0.ownBlock ∨ ∃ g, v'.ownBlock = some g ∧ (wx.alloc (.cells #[x] T)).heap.size ≤ g) (hy : wy = w5.setCell ⟨N + 1 + 1 + 1, 0, none⟩ v') :
    Fv N B lc v' v1 (p ++ [j]) q w wy ∧ Below N wx wy ∧ (∀ k, (k < B ∧ k ≠ N + 1 + 1 + 1 ∧ k ≠ N + 1 + 1 + 1 + 1) → wy.heap[k]? = wx.heap[k]?) ∧ KeepsFrom B wx wy := by
  have h1 := h.step (by omega) (below1 wx (.cells #[x] T))
  have hsz := h.sz
  have hsa : (wx.alloc (.cells #[x] T)).heap.size = wx.heap.size + 1 := by simp
  have hs5 := hg.size
  have hsy : wy.heap.size = w5.heap.size := by rw [hy]; simp
  have lt := fun g e => (h.o0.lt g e).1
  have oth : ∀ k, k < wx.heap.size → k ≠ N + 1 + 1 + 1 → k ≠ N + 1 + 1 + 1 + 1 → v0.ownBlock ≠ some k → wy.heap[k]? = wx.heap[k]? := fun k hk n1 n2 n3 => by
    rw [hy, Below.heap_setCell _ _ _ _ (by simp; omega), hg.block k (by omega) (fun e => n3 e.symm)]
    exact (below1 wx (.cells #[x] T)).block k hk
  obtain ⟨k1, k2⟩ := keeps_round hB (by omega) oth (fun g e => ⟨lt g e, own_cells h.o0 e⟩) hsz
  have nob : ∀ k, k < B → v0.ownBlock ≠ some k := fun k hk e => by have := lt k e; omega
  have bl : Below N wx wy := by
    refine ⟨?_, ?_, ?_, by omega, fun k hk => k1 k ⟨by omega, by omega, by omega⟩⟩
    · rw [hy]; exact hg.os
    · rw [hy]; exact hg.tape
    · rw [hy]; exact hg.output
  have bo : ∀ {M : Nat} {cs : Array Value} {T' : TypeId}, M < B → M ≠ N + 1 + 1 + 1 → Bk wx M cs T' → Bk wy M cs T' := fun hM hne hb => by
    rw [hy]
    exact (((hb.below (below1 wx (.cells #[x] T))).grown hg (nob _ hM)).other _ _ (by simpa using hne))
  have bs : Bk wy (N + 1 + 1 + 1) #[v'] 31 := by
    rw [hy]
    exact ((h.f.below (below1 wx (.cells #[x] T))).grown hg (nob _ (by omega))).set 0 _
  have so : wy.ownsRow B 3 1 v' (p ++ [j]).length (nv (p ++ [j])) := by
    rw [hy]
    refine World.ownsRow.kept (row := some (N + 1 + 1 + 1)) ho ⟨rfl, rfl, rfl, by simp, fun k _ hk => Below.heap_setCell _ _ _ _ (fun e => hk (by simp [e]))⟩ ?_
    refine .inr fun e => ?_
    have := (ho.lt _ e).1
    omega
  have oo : wy.ownsRow B 3 1 v1 q.length (nv q) := by
    rw [hy]
    refine World.ownsRow.kept (row := some (N + 1 + 1 + 1)) (World.ownsRow.kept (row := v0.ownBlock) h1.o1 hg ?_) ⟨rfl, rfl, rfl, by simp, fun k _ hk => Below.heap_setCell _ _ _ _ (fun e => hk (by simp [e]))⟩ ?_
    · cases e1 : v1.ownBlock with
      | none => exact .inl rfl
      | some g => exact .inr fun e2 => h.ne g e2.symm e1
    · refine .inr fun e => ?_
      have := (h.o1.lt _ e).1
      omega
  have nn : ∀ g, v'.ownBlock = some g → v1.ownBlock = some g → False := fun g e1 e2 => by
    rcases hn with e3 | ⟨g', e3, e4⟩
    · rw [e3] at e1; exact h.ne g e1 e2
    · rw [e1] at e3
      injection e3 with e3
      have := (h.o1.lt g e2).2
      omega
  exact ⟨⟨h.below.trans bl, by omega, bo (by omega) (by omega) h.l, bo (by omega) (by omega) h.r, bs, bo (by omega) (by omega) h.e, so, oo, nn⟩, bl, k1, k2⟩

/-- One more place in the second row. -/
theorem Fv.app1 {N B j : Nat} {lc : Array Value} {v0 v1 v' x : Value} {p q : List Nat} {T : TypeId} {w wx w5 wy : World} (h : Fv N B lc v0 v1 p q w wx) (hB : N + 5 ≤ B) (hg : (wx.alloc (.cells #[x] T)).grownBy w5 v1.ownBlock) (ho : w5.ownsRow B 3 1 v' (q ++ [j]).length (nv (q ++ [j]))) (hn : v'.ownBlock = v1.ownBlock ∨ ∃ g, v'.ownBlock = some g ∧ (wx.alloc (.cells #[x] T)).heap.size ≤ g) (hy : wy = w5.setCell ⟨N + 1 + 1 + 1 + 1, 0, none⟩ v') :
    Fv N B lc v0 v' p (q ++ [j]) w wy ∧ Below N wx wy ∧ (∀ k, (k < B ∧ k ≠ N + 1 + 1 + 1 ∧ k ≠ N + 1 + 1 + 1 + 1) → wy.heap[k]? = wx.heap[k]?) ∧ KeepsFrom B wx wy := by
  have h1 := h.step (by omega) (below1 wx (.cells #[x] T))
  have hsz := h.sz
  have hsa : (wx.alloc (.cells #[x] T)).heap.size = wx.heap.size + 1 := by simp
  have hs5 := hg.size
  have hsy : wy.heap.size = w5.heap.size := by rw [hy]; simp
  have lt := fun g e => (h.o1.lt g e).1
  have oth : ∀ k, k < wx.heap.size → k ≠ N + 1 + 1 + 1 → k ≠ N + 1 + 1 + 1 + 1 → v1.ownBlock ≠ some k → wy.heap[k]? = wx.heap[k]? := fun k hk n1 n2 n3 => by
    rw [hy, Below.heap_setCell _ _ _ _ (by simp; omega), hg.block k (by omega) (fun e => n3 e.symm)]
    exact (below1 wx (.cells #[x] T)).block k hk
  obtain ⟨k1, k2⟩ := keeps_round hB (by omega) oth (fun g e => ⟨lt g e, own_cells h.o1 e⟩) hsz
  have nob : ∀ k, k < B → v1.ownBlock ≠ some k := fun k hk e => by have := lt k e; omega
  have bl : Below N wx wy := by
    refine ⟨?_, ?_, ?_, by omega, fun k hk => k1 k ⟨by omega, by omega, by omega⟩⟩
    · rw [hy]; exact hg.os
    · rw [hy]; exact hg.tape
    · rw [hy]; exact hg.output
  have bo : ∀ {M : Nat} {cs : Array Value} {T' : TypeId}, M < B → M ≠ N + 1 + 1 + 1 + 1 → Bk wx M cs T' → Bk wy M cs T' := fun hM hne hb => by
    rw [hy]
    exact (((hb.below (below1 wx (.cells #[x] T))).grown hg (nob _ hM)).other _ _ (by simpa using hne))
  have bs : Bk wy (N + 1 + 1 + 1 + 1) #[v'] 31 := by
    rw [hy]
    exact ((h.e.below (below1 wx (.cells #[x] T))).grown hg (nob _ (by omega))).set 0 _
  have so : wy.ownsRow B 3 1 v' (q ++ [j]).length (nv (q ++ [j])) := by
    rw [hy]
    refine World.ownsRow.kept (row := some (N + 1 + 1 + 1 + 1)) ho ⟨rfl, rfl, rfl, by simp, fun k _ hk => Below.heap_setCell _ _ _ _ (fun e => hk (by simp [e]))⟩ ?_
    refine .inr fun e => ?_
    have := (ho.lt _ e).1
    omega
  have oo : wy.ownsRow B 3 1 v0 p.length (nv p) := by
    rw [hy]
    refine World.ownsRow.kept (row := some (N + 1 + 1 + 1 + 1)) (World.ownsRow.kept (row := v1.ownBlock) h1.o0 hg ?_) ⟨rfl, rfl, rfl, by simp, fun k _ hk => Below.heap_setCell _ _ _ _ (fun e => hk (by simp [e]))⟩ ?_
    · cases e1 : v0.ownBlock with
      | none => exact .inl rfl
      | some g => exact .inr fun e2 => h.ne g e1 e2.symm
    · refine .inr fun e => ?_
      have := (h.o0.lt _ e).1
      omega
  have nn : ∀ g, v'.ownBlock = some g → v0.ownBlock = some g → False := fun g e1 e2 => by
    rcases hn with e3 | ⟨g', e3, e4⟩
    · rw [e3] at e1; exact h.ne g e2 e1
    · rw [e1] at e3
      injection e3 with e3
      have := (h.o0.lt g e2).2
      omega
  exact ⟨⟨h.below.trans bl, by omega, bo (by omega) (by omega) h.l, bo (by omega) (by omega) h.r, bo (by omega) (by omega) h.f, bs, oo, so, fun g a b => nn g b a⟩, bl, k1, k2⟩

theorem isName_size {x : ByteArray} (h : isName (tl x) = true) : x.size ≤ 9223372036854775807 := by
  have h1 : (tl x).length ≤ 65535 := by simp [isName, okText] at h; omega
  rw [tl_size] at h1
  omega
theorem fn_take_ag (r : Bool) (tp : Bs) (k : Int) (L : List Ro) (j : Nat) (x : Ro) (hj : L[j]? = some x) : fn r tp k (L.take (j + 1)) = fn r tp k (L.take j) ++ (if ((x.e == r) && x.ag tp k) = true then [j] else []) := fnd_take _ L j x hj
theorem fn_take_len (r : Bool) (tp : Bs) (k : Int) (L : List Ro) (j : Nat) : (fn r tp k (L.take j)).length ≤ j := by
  have h1 := fnd_len (fun x => (x.e == r) && x.ag tp k) (L.take j) 0
  have h2 : (L.take j).length ≤ j := by rw [List.length_take]; omega
  unfold fn
  omega
theorem foj_ag (tp : Bs) (k : Int) (L : List Ro) (j : Nat) (x : Ro) (hj : L[j]? = some x) : (foj tp k L j == 2) = x.ag tp k := by
  simp only [foj, hj]; exact fo_ag tp k x

set_option maxRecDepth 100000 in
set_option maxHeartbeats 4000000 in
theorem find_any : KFind 800 := by
  intro L ad cap m w h hl hk hkk hnm hT
  have hmt := isName_size hnm
  refine (callsIn_wide (n := 5)).1 ?_
  refine callsIn_of_wp_marks Tryz.func9 rfl trivial ?_ rfl
  simp only [Tryz.ntmps9, List.size_toArray, List.length_cons, List.length_nil, Nat.reduceAdd, Nat.reduceSub, Array.replicate_succ, Array.replicate_zero, List.push_toArray, List.append_toArray, List.nil_append, List.cons_append]
  have HS := Lib.hid h
  have HK := Lib.hid hk
  have HT := Lib.hid hT
  obtain ⟨w1, hw1⟩ : ∃ w1, w1 = w.alloc (.cells #[.slice ad L.length cap] 22) := ⟨_, rfl⟩
  have b1 := below1 w (.cells #[.slice ad L.length cap] 22)
  have z1 : w1.heap.size = w.heap.size + 1 := by rw [hw1, World.size_alloc]
  rw [← hw1] at b1
  have HW1 := Lib.hid hw1.symm
  obtain ⟨w2, hw2⟩ : ∃ w2, w2 = w1.alloc (.cells m.cs 28) := ⟨_, rfl⟩
  have b2 := below1 w1 (.cells m.cs 28)
  have z2 : w2.heap.size = w.heap.size + 1 + 1 := by rw [hw2, World.size_alloc, z1]
  rw [← hw2] at b2
  have HW2 := Lib.hid hw2.symm
  obtain ⟨w3, hw3⟩ : ∃ w3, w3 = w2.alloc (.cells #[.slice none 0 0, .bool false] 33) := ⟨_, rfl⟩
  have b3 := below1 w2 (.cells #[.slice none 0 0, .bool false] 33)
  have z3 : w3.heap.size = w.heap.size + 1 + 1 + 1 := by rw [hw3, World.size_alloc, z2]
  rw [← hw3] at b3
  have HW3 := Lib.hid hw3.symm
  obtain ⟨w4, hw4⟩ : ∃ w4, w4 = w3.alloc (.cells #[.slice none 0 0] 31) := ⟨_, rfl⟩
  have b4 := below1 w3 (.cells #[.slice none 0 0] 31)
  have z4 : w4.heap.size = w.heap.size + 1 + 1 + 1 + 1 := by rw [hw4, World.size_alloc, z3]
  rw [← hw4] at b4
  have HW4 := Lib.hid hw4.symm
  obtain ⟨w5, hw5⟩ : ∃ w5, w5 = w4.alloc (.cells #[.slice none 0 0] 31) := ⟨_, rfl⟩
  have b5 := below1 w4 (.cells #[.slice none 0 0] 31)
  have z5 : w5.heap.size = w.heap.size + 1 + 1 + 1 + 1 + 1 := by rw [hw5, World.size_alloc, z4]
  rw [← hw5] at b5
  have HW5 := Lib.hid hw5.symm
  have F0 : Fv w.heap.size (w.heap.size + 5) #[.slice ad L.length cap] (.slice none 0 0) (.slice none 0 0) [] [] w w5 := by
    have a1 := Bk.new w #[.slice ad L.length cap] 22
    have a3 := Bk.new w2 #[.slice none 0 0, .bool false] 33
    have a4 := Bk.new w3 #[.slice none 0 0] 31
    have a5 := Bk.new w4 #[.slice none 0 0] 31
    rw [← hw1] at a1
    rw [← hw3, z2] at a3
    rw [← hw4, z3] at a4
    rw [← hw5, z4] at a5
    refine ⟨(((b1.trans (b2.mono (by omega))).trans (b3.mono (by omega))).trans (b4.mono (by omega))).trans (b5.mono (by omega)), by omega, (((a1.below b2).below b3).below b4).below b5, (a3.below b4).below b5, a4.below b5, a5, World.ownsRow_nil _ _ _ _, World.ownsRow_nil _ _ _ _, fun g e => by cases e⟩
  have bM : Bk w5 (w.heap.size + 1) m.cs 28 := by
    have a2 := Bk.new w1 m.cs 28
    rw [← hw2, z1] at a2
    exact ((a2.below b3).below b4).below b5
  have l0 := F0.l.c 0
  obtain ⟨m0, m1, m2, m3, m4, m5, m6, m7, m8, m9, m10, m11, m12⟩ := bM.c13
  have HF0 := Lib.hid F0
  clear h hk hT hw1 hw2 hw3 hw4 hw5 b1 b2 b3 b4 b5 F0 bM
  gi_wp2_with (first | rw [HW1.out] | rw [HW2.out] | rw [HW3.out] | rw [HW4.out] | rw [HW5.out])
  refine ⟨trivial, (inOrder_any _ ad L.length cap m w5).mono ?_⟩
  rintro e6 w6 ⟨Bl, Bm, Bu, u, rfl, hBl, hBm, hBu, bl, bm, bu, hu, b6⟩
  clear l0 m0 m1 m2 m3 m4 m5 m6 m7 m8 m9 m10 m11 m12
  have F6 : Fv w.heap.size w6.heap.size #[.slice ad L.length cap] (.slice none 0 0) (.slice none 0 0) [] [] w w6 := by
    have h := HF0.out.step (by omega) b6
    exact ⟨h.below, Nat.le_refl _, h.l, h.r, h.f, h.e, World.ownsRow_nil _ _ _ _, World.ownsRow_nil _ _ _ _, h.ne⟩
  have hs6 := b6.size
  have H6 := Lib.hid F6
  obtain ⟨i0, hi0, hz0, hz1, hz2⟩ := info_parts infoInt
  gi_wp2
  refine range_gives (B := w.heap.size) (K := fun k => k < w6.heap.size ∧ k ≠ w.heap.size + 1 + 1 + 1 ∧ k ≠ w.heap.size + 1 + 1 + 1 + 1) (N := L.length) (enc := enc2 (tl m.tp) m.k L) (gf := 38) (lb := #[.pointer (some ⟨Bl, 0, none⟩), .pointer (some ⟨Bm, 0, none⟩), .pointer (some ⟨Bu, 0, none⟩)]) rfl (enters_of Tryz.func38 (by kernel_rfl) rfl) (fun _ => rfl) (by omega) (fun k hk => hk.1)
    (iter_gives L ad cap m u w w6 HS.out hl HK.out hkk hmt HT.out hu F6.below _ Bl Bm Bu ⟨bl.lt, by omega, by omega⟩ ⟨bm.lt, by omega, by omega⟩ ⟨bu.lt, by omega, by omega⟩ bl bm bu)
    (fun j W => ∃ v0 v1, Fv w.heap.size w6.heap.size #[.slice ad L.length cap] v0 v1 (fn false (tl m.tp) m.k (L.take j)) (fn true (tl m.tp) m.k (L.take j)) w W)
    (fun j A A' ⟨v0, v1, hF⟩ hb => ⟨v0, v1, hF.step (by omega) hb⟩) (fun j A k o o' ⟨v0, v1, hF⟩ hk hc hB => ⟨v0, v1, hF.put (by omega) hk hc hB⟩) ⟨_, _, F6⟩ (fun j => { tmps := #[.slice ad L.length cap, .agg m.cs, .pointer (some ⟨w.heap.size, 0, none⟩), .pointer (some ⟨w.heap.size + 1, 0, none⟩), .pointer (some ⟨w.heap.size + 1 + 1, 0, none⟩), .pointer (some ⟨w.heap.size + 1 + 1 + 1, 0, none⟩), .pointer (some ⟨w.heap.size + 1 + 1 + 1 + 1, 0, none⟩), .int .i64 j, .int .i64 (foj (tl m.tp) m.k L j), .slice ad L.length cap, .agg m.cs, .func (.func 38) #[] #[.pointer (some ⟨Bl, 0, none⟩), .pointer (some ⟨Bm, 0, none⟩), .pointer (some ⟨Bu, 0, none⟩)], .int .i64 j, .int .i64 (foj (tl m.tp) m.k L j), undef, undef, undef, undef, undef, undef, undef, undef, undef, undef, undef, undef, undef, undef, undef, undef, undef, undef, undef, undef, undef, undef, undef, undef, undef, undef, undef], defers := [] }) ?assign ?body ?done
  case assign =>
    intro l j W K hK
    gi_wp2
    exact hK
  case body =>
    rintro l j W hj ⟨v0, v1, hF⟩
    obtain ⟨x, hx⟩ : ∃ x, L[j]? = some x := ⟨_, List.getElem?_eq_getElem hj⟩
    have t0 := fn_take_ag false (tl m.tp) m.k L j x hx
    have t1 := fn_take_ag true (tl m.tp) m.k L j x hx
    have hf := foj_ag (tl m.tp) m.k L j x hx
    have n0 := fn_take_len false (tl m.tp) m.k L j
    have n1 := fn_take_len true (tl m.tp) m.k L j
    obtain ⟨b, of, rfl, cc, -, -⟩ := (HS.out.below hF.below).at j x hx
    obtain ⟨-, -, -, -, -, c5⟩ := cc
    have l0 := hF.l.c 0
    have hjl : (j : Int) < (L.length : Int) := by omega
    generalize foj (tl m.tp) m.k L j = fj at hf
    generalize x.ag (tl m.tp) m.k = ag at hf t0 t1
    generalize x.e = xe at c5 t0 t1
    have HFv := Lib.hid hF
    have T0 := Lib.hid t0
    have T1 := Lib.hid t1
    have f0 := hF.f.c 0
    have f1 := hF.e.c 0
    have g0 := hF.f.f 0
    have g1 := hF.e.f 0
    have hsz := hF.sz
    have hN := hF.e.lt
    clear hx t0 t1 HF0 H6 F6 bl bm bu hu b6 HK HT HS hF
    cases ag with
    | false =>
      have hne : (fj != 2) = true := by simp only [bne, hf]; rfl
      clear hf c5 l0 f0 f1 g0 g1
      gi_wp2
      have e0 := T0.out
      have e1 := T1.out
      simp only [Bool.and_false, Bool.false_eq_true, if_false, List.append_nil] at e0 e1
      refine ⟨rfl, ⟨v0, v1, ?_⟩, Below.refl _ _, fun _ _ => rfl, KeepsFrom.refl _ _⟩
      rw [e0, e1]
      exact HFv.out
    | true =>
      have hne : (fj != 2) = false := by simp only [bne, hf]; rfl
      clear hf
      cases xe with
      | false =>
        have e0 := T0.out
        have e1 := T1.out
        simp at e0 e1
        have hown := HFv.out.o0
        have E0 := Lib.hid e0
        have E1 := Lib.hid e1
        clear e0 e1
        gi_wp2_with (gi_at_builtin; refine wpListIn_append_near _ rfl _ _ 31 rfl w6.heap.size 3 i0 (.int .i64 0) 1 8 Tryz.underlying31 hi0 hz0 hz1 hz2 rfl (by decide) _ _ _ rfl (hown.alloc _) ⟨W.heap.size, 0, none⟩ 1 1 [.int .i64 (j : Int)] rfl rfl (cell_one_new _ _ _) (by intro u hu; simp at hu; subst hu; rfl) (by unfold maxLen; omega) (by omega) (by simp; omega) ?_; intro v' w7 hown7 hgrow7 hnear7; obtain ⟨va, vc, rfl⟩ := row_form hown7; have q0 := ((HFv.out.f.below (below1 _ (.cells #[.int .i64 (j : Int)] 3))).grown hgrow7 (own_ne hown (by omega))).c 0; have q1 := ((HFv.out.f.below (below1 _ (.cells #[.int .i64 (j : Int)] 3))).grown hgrow7 (own_ne hown (by omega))).f 0; clear c5 l0 f0 f1 g0 g1)
        obtain ⟨r1, r2, r3, r4⟩ := HFv.out.app0 (by omega) hgrow7 (j := j) (by simpa using hown7) hnear7 rfl
        refine ⟨rfl, ⟨.slice va ((fn false (tl m.tp) m.k (L.take j)).length + 1) vc, v1, ?_⟩, r2, r3, r4⟩
        rw [E0.out, E1.out]
        exact r1
      | true =>
        have e0 := T0.out
        have e1 := T1.out
        simp at e0 e1
        have hown := HFv.out.o1
        have E0 := Lib.hid e0
        have E1 := Lib.hid e1
        clear e0 e1
        gi_wp2_with (gi_at_builtin; refine wpListIn_append_near _ rfl _ _ 31 rfl w6.heap.size 3 i0 (.int .i64 0) 1 8 Tryz.underlying31 hi0 hz0 hz1 hz2 rfl (by decide) _ _ _ rfl (hown.alloc _) ⟨W.heap.size, 0, none⟩ 1 1 [.int .i64 (j : Int)] rfl rfl (cell_one_new _ _ _) (by intro u hu; simp at hu; subst hu; rfl) (by unfold maxLen; omega) (by omega) (by simp; omega) ?_; intro v' w7 hown7 hgrow7 hnear7; obtain ⟨va, vc, rfl⟩ := row_form hown7; have q0 := ((HFv.out.e.below (below1 _ (.cells #[.int .i64 (j : Int)] 3))).grown hgrow7 (own_ne hown (by omega))).c 0; have q1 := ((HFv.out.e.below (below1 _ (.cells #[.int .i64 (j : Int)] 3))).grown hgrow7 (own_ne hown (by omega))).f 0; clear c5 l0 f0 f1 g0 g1)
        obtain ⟨r1, r2, r3, r4⟩ := HFv.out.app1 (by omega) hgrow7 (j := j) (by simpa using hown7) hnear7 rfl
        refine ⟨rfl, ⟨v0, .slice va ((fn true (tl m.tp) m.k (L.take j)).length + 1) vc, ?_⟩, r2, r3, r4⟩
        rw [E0.out, E1.out]
        exact r1
  case done =>
    rintro W ⟨v0, v1, hF⟩ hD
    rw [List.take_length] at hF
    have hlt : (fn false (tl m.tp) m.k L).length ≤ L.length := fnd_len _ _ _
    have hlt1 : (fn true (tl m.tp) m.k L).length ≤ L.length := fnd_len _ _ _
    have hE : tkE (tl m.tp) m.k L = (decide (fn false (tl m.tp) m.k L = []) && !decide (fn true (tl m.tp) m.k L = [])) := rfl
    have hR : tkR (tl m.tp) m.k L = if fn false (tl m.tp) m.k L = [] then fn true (tl m.tp) m.k L else fn false (tl m.tp) m.k L := rfl
    generalize fn false (tl m.tp) m.k L = p at hF hlt hE hR
    generalize fn true (tl m.tp) m.k L = q at hF hlt1 hE hR
    have f0 := hF.f.c 0
    have f1 := hF.e.c 0
    have hsz := hF.sz
    have hN := hF.e.lt
    obtain ⟨a0, c0, rfl⟩ := row_form hF.o0
    obtain ⟨a1, c1, rfl⟩ := row_form hF.o1
    have r0 := hF.r.c2.1
    have r1 := hF.r.c2.2
    have rf0 := hF.r.f
    have HFv := Lib.hid hF
    have HE := Lib.hid hE
    have HR := Lib.hid hR
    have FIN : Hid (∀ va vb W8, W8 = (W.setCell ⟨w.heap.size + 1 + 1, 0, none⟩ va).setCell ⟨w.heap.size + 1 + 1, 1, none⟩ vb → W8.heap[w6.heap.size]? = some (.deferred (some [])) ∧ Bk (W8.putObj w6.heap.size (.deferred none)) (w.heap.size + 1 + 1) #[va, vb] 33 ∧ Below w.heap.size w (W8.putObj w6.heap.size (.deferred none)) ∧ (W8.putObj w6.heap.size (.deferred none)).ownsRow w6.heap.size 3 1 (.slice a0 p.length c0) p.length (nv p) ∧ (W8.putObj w6.heap.size (.deferred none)).ownsRow w6.heap.size 3 1 (.slice a1 q.length c1) q.length (nv q)) := Lib.hid fun va vb W8 hW8 => by
      have hd : W8.heap[w6.heap.size]? = some (.deferred (some [])) := by
        rw [hW8, Below.heap_setCell _ _ _ _ (by simp; omega), Below.heap_setCell _ _ _ _ (by simp; omega)]; exact hD
      have hb : Bk W8 (w.heap.size + 1 + 1) #[va, vb] 33 := by rw [hW8]; exact (HFv.out.r.set 0 va).set 1 vb
      refine ⟨hd, hb.put hd rfl, ?_, own_put ?_ hd rfl, own_put ?_ hd rfl⟩
      · rw [hW8] at hd ⊢
        exact Below.trans (((HFv.out.below).setCell (p := ⟨w.heap.size + 1 + 1, 0, none⟩) (by simp; omega) _).setCell (p := ⟨w.heap.size + 1 + 1, 1, none⟩) (by simp; omega) _) (below_put _ _ _ _ (by omega) (Array.getElem?_eq_some_iff.1 hd).1)
      · rw [hW8]; exact own_set (own_set HFv.out.o0 (by omega) _ _) (by omega) _ _
      · rw [hW8]; exact own_set (own_set HFv.out.o1 (by omega) _ _) (by omega) _ _
    clear hF hE hR H6 F6 bl bm bu hu b6 HK HT HS HF0
    by_cases hp : p = []
    · subst hp
      simp only [List.length_nil] at f0
      have hgE : tkE (tl m.tp) m.k L = decide (0 < q.length) := by rw [HE.out]; cases q <;> simp
      have hRq : tkR (tl m.tp) m.k L = q := by rw [HR.out, if_pos rfl]
      clear HE HR
      gi_wp2
      obtain ⟨W8, hW8⟩ : ∃ W8, W8 = (W.setCell ⟨w.heap.size + 1 + 1, 0, none⟩ (.slice a1 q.length c1)).setCell ⟨w.heap.size + 1 + 1, 1, none⟩ (.bool (decide (0 < q.length))) := ⟨_, rfl⟩
      obtain ⟨k1, k2, k3, k4, k5⟩ := FIN.out _ _ _ hW8
      rw [← hW8]
      obtain ⟨x0, x1⟩ := k2.c2
      refine ⟨by simp, .inl ⟨_, _, rfl, run_takeDeferred k1, ?_⟩⟩
      refine ⟨.agg #[.slice a1 q.length c1, .bool (decide (0 < q.length))], ?_, .slice a1 q.length c1, by rw [hgE], by rw [hRq]; exact own_rin k5, k3⟩
      simp [results, Tryz.results9, go_sem, x0, x1]
    · have hpl : 0 < p.length := List.length_pos_iff.2 hp
      have hpi : (0 : Int) < (p.length : Int) := by omega
      have hpd : decide ((0 : Int) < (p.length : Int)) = true := decide_eq_true hpi
      have hgE : tkE (tl m.tp) m.k L = false := by rw [HE.out, decide_eq_false hp]; rfl
      have hRq : tkR (tl m.tp) m.k L = p := by rw [HR.out, if_neg hp]
      clear HE HR hp
      gi_wp2
      obtain ⟨W8, hW8⟩ : ∃ W8, W8 = (W.setCell ⟨w.heap.size + 1 + 1, 0, none⟩ (.slice a0 p.length c0)).setCell ⟨w.heap.size + 1 + 1, 1, none⟩ (.bool false) := ⟨_, rfl⟩
      obtain ⟨k1, k2, k3, k4, k5⟩ := FIN.out _ _ _ hW8
      rw [← hW8]
      obtain ⟨x0, x1⟩ := k2.c2
      refine ⟨by simp, .inl ⟨_, _, rfl, run_takeDeferred k1, ?_⟩⟩
      refine ⟨.agg #[.slice a0 p.length c0, .bool false], ?_, .slice a0 p.length c0, by rw [hgE], by rw [hRq]; exact own_rin k4, k3⟩
      simp [results, Tryz.results9, go_sem, x0, x1]
end Go.Proofs.YtkgbpildikjoiaaGreatDoor
namespace Go.Proofs.YtkgbpildikjoiaaGreatDoor
open Go.RowKit Tp

/-- A set of numbers, kept as a map. -/
def Sm (w : World) (r : Nat) (l : List Int) : Prop :=
  ∃ (es : Array MapEntry) (ck : Nat), w.heap[r]? = some (.map es ck) ∧ es.toList.map (fun e => (e.key, e.val)) = l.map fun x => (Value.int .i64 x, Value.agg #[])
theorem Sm.heap {w w' : World} {r : Nat} {l : List Int} (h : Sm w r l) (hh : w'.heap[r]? = w.heap[r]?) : Sm w' r l := by
  obtain ⟨es, ck, h1, h2⟩ := h
  exact ⟨es, ck, hh.trans h1, h2⟩
theorem findNow_sm (i : Int) : ∀ (es : List MapEntry) (l : List Int) (k : Nat), es.map (fun e => (e.key, e.val)) = l.map (fun x => (Value.int .i64 x, Value.agg #[])) →
    ∃ r, Instr.findNow (.int .i64) (.int .i64 i) es k = some r ∧ (r = none → i ∉ l) ∧ ∀ n v, r = some (n, v) → i ∈ l ∧ v = .agg #[]
  | [], [], _, _ => ⟨none, rfl, fun _ hx => by simp at hx, fun n v h => nomatch h⟩
  | [], _ :: _, _, h => by simp at h
  | _ :: _, [], _, h => by simp at h
  | e :: es, j :: l, k, h => by
    simp only [List.map_cons, List.cons.injEq, Prod.mk.injEq] at h
    obtain ⟨⟨h1, h2⟩, h3⟩ := h
    by_cases hij : i = j
    · subst hij
      refine ⟨some (k, e.val), by simp [Instr.findNow, Instr.sameNow, h1], (fun h => nomatch h), fun n v hr => ?_⟩
      simp only [Option.some.injEq, Prod.mk.injEq] at hr
      obtain ⟨rfl, rfl⟩ := hr
      exact ⟨by simp, h2⟩
    · obtain ⟨r, hr, hn, hs⟩ := findNow_sm i es l (k + 1) h3
      refine ⟨r, by simp [Instr.findNow, Instr.sameNow, h1, show (i == j) = false by simpa using hij, hr], fun h hx => ?_, fun n v hrr => ?_⟩
      · rcases List.mem_cons.1 hx with rfl | hx
        · exact hij rfl
        · exact hn h hx
      · exact ⟨List.mem_cons_of_mem _ (hs n v hrr).1, (hs n v hrr).2⟩
theorem underS : Tryz.prog.underlying 55 = some (.map 3 56) := by kernel_rfl
theorem underI : Tryz.prog.underlying 3 = some (.int .i64) := by kernel_rfl
theorem look_sm (w : World) (r : Nat) (l : List Int) (h : Sm w r l) (i : Int) : (Instr.lookup 55 (.map (some r)) (.int .i64 i) true).run Tryz.prog w = .ok (.tuple #[.agg #[], .bool (decide (i ∈ l))]) w := by
  obtain ⟨es, ck, hb, he⟩ := h
  obtain ⟨q, h1, h2, h3⟩ := findNow_sm i es.toList l 0 he
  have hz : ∀ w, (zeroValue 56).run Tryz.prog w = .ok (.agg #[]) w := fun _ => by kernel_rfl
  have hc : ∀ b w, (Instr.checkKey b 10000 3 (.int .i64 i)).run Tryz.prog w = .ok () w := fun _ _ => by kernel_rfl
  have hg : (getObj r).run Tryz.prog w = .ok (.map es ck) w := by simp [getObj, Sem.run, hb]
  simp only [Instr.lookup, Sem.run_bind, run_underlying underS, Result.andThen_ok, hg, Sem.run_pure, hc, Instr.findKey, run_underlying underI, h1]
  cases q with
  | none => simp [h2 rfl, hz]
  | some x =>
    obtain ⟨k, v⟩ := x
    obtain ⟨e1, e2⟩ := h3 k v rfl
    simp [e1, e2]
theorem upd_sm (w : World) (r : Nat) (l : List Int) (h : Sm w r l) (i : Int) (hi : i ∉ l) :
    ∃ w', (Instr.mapUpdate 55 (.map (some r)) (.int .i64 i) (.agg #[])).run Tryz.prog w = .ok () w' ∧ Sm w' r (l ++ [i]) ∧ w.grownBy w' (some r) ∧ w'.heap.size = w.heap.size := by
  obtain ⟨es, ck, hb, he⟩ := h
  obtain ⟨q, h1, h2, h3⟩ := findNow_sm i es.toList l 0 he
  have hc : ∀ b w, (Instr.checkKey b 10000 3 (.int .i64 i)).run Tryz.prog w = .ok () w := fun _ _ => by kernel_rfl
  have hg : (getObj r).run Tryz.prog w = .ok (.map es ck) w := by simp [getObj, Sem.run, hb]
  have hs : ∀ o, (setObj r o).run Tryz.prog w = .ok () { w with heap := w.heap.setIfInBounds r o } := fun o => by simp [setObj, Sem.run, hb]
  have hlt : r < w.heap.size := (Array.getElem?_eq_some_iff.1 hb).1
  have fr : ∀ o, w.grownBy { w with heap := w.heap.setIfInBounds r o } (some r) := fun o => by
    refine ⟨rfl, rfl, rfl, by simp, fun k hk hne => ?_⟩
    have hne' : r ≠ k := fun e => hne (by rw [e])
    simp [hne']
  simp only [Instr.mapUpdate, Sem.run_bind, run_underlying underS, Result.andThen_ok, hg, Sem.run_pure, hc, Instr.findKey, run_underlying underI, h1]
  cases q with
  | none => exact ⟨_, hs _, ⟨es.push ⟨.int .i64 i, .agg #[], ck⟩, ck + 1, by simp [hlt], by simp [he]⟩, fr _, by simp⟩
  | some x =>
    obtain ⟨k, v⟩ := x
    exact absurd (h3 k v rfl).1 hi

/-- Handlers on its way: the set, the row, all that was but the set. -/
structure Hw (N : Nat) (w w3 : World) (sv : Value) (O : List Int) (wx : World) : Prop where
  below : Below w.heap.size w wx
  sz : w3.heap.size ≤ wx.heap.size
  oth : ∀ k, k < w3.heap.size → k ≠ N → wx.heap[k]? = w3.heap[k]?
  m : Sm wx N O
  own : wx.ownsRow w3.heap.size 3 1 sv O.length (iv O)
theorem Hw.step {N : Nat} {w w3 : World} {sv : Value} {O : List Int} {wx wy : World} (h : Hw N w w3 sv O wx) (hN : N < w3.heap.size) (hb : Below wx.heap.size wx wy) : Hw N w w3 sv O wy :=
  ⟨h.below.trans (hb.mono h.below.size), Nat.le_trans h.sz hb.size, fun k hk hne => (hb.block k (Nat.lt_of_lt_of_le hk h.sz)).trans (h.oth k hk hne), h.m.heap (hb.block N (Nat.lt_of_lt_of_le hN h.sz)), own_below h.own hb⟩
theorem Hw.add {N : Nat} {w w3 : World} {sv v' x : Value} {T : TypeId} {O : List Int} {hh : Int} {wx w6 w7 : World} (h : Hw N w w3 sv O wx) (hw : w.heap.size ≤ N) (hN : N < w3.heap.size) (hm : Sm w6 N (O ++ [hh])) (hg : wx.grownBy w6 (some N)) (hs : w6.heap.size = wx.heap.size) (hg2 : (w6.alloc (.cells #[x] T)).grownBy w7 sv.ownBlock) (ho : w7.ownsRow w3.heap.size 3 1 v' (O ++ [hh]).length (iv (O ++ [hh]))) : Hw N w w3 v' (O ++ [hh]) w7 := by
  have ba := below1 w6 (.cells #[x] T)
  have hsa : (w6.alloc (.cells #[x] T)).heap.size = w6.heap.size + 1 := by simp
  have hs7 := hg2.size
  have hsz := h.sz
  have nob : ∀ k, k < w3.heap.size → sv.ownBlock ≠ some k := fun k hk e => by have := (h.own.lt k e).1; omega
  have key : ∀ k, k < w3.heap.size → k ≠ N → w7.heap[k]? = wx.heap[k]? := fun k hk hne => by
    rw [hg2.block k (by omega) (fun e => nob k hk e.symm), ba.block k (by omega), hg.block k (by omega) (by simpa using hne)]
  have hb := h.below.size
  refine ⟨⟨?_, ?_, ?_, by omega, fun k hk => (key k (by omega) (by omega)).trans (h.below.block k hk)⟩, by omega, fun k hk hne => (key k hk hne).trans (h.oth k hk hne), hm.heap ?_, ho⟩
  · exact hg2.os.trans (hg.os.trans h.below.os)
  · exact hg2.tape.trans (hg.tape.trans h.below.tape)
  · exact hg2.output.trans (hg.output.trans h.below.output)
  · rw [hg2.block N (by omega) (fun e => nob N hN e.symm), ba.block N (by omega)]

set_option maxRecDepth 100000 in
set_option maxHeartbeats 4000000 in
theorem handlers_any : KHan := by
  intro L ad cap m w h hl hk hkk hnm hT
  obtain ⟨i0, hi0, hz0, hz1, hz2⟩ := info_parts infoInt
  have b0 := below1 w (.cells m.cs 28)
  have n0 := Bk.new w m.cs 28
  obtain ⟨w0, hw0⟩ : ∃ w0, w0 = w.alloc (.cells m.cs 28) := ⟨_, rfl⟩
  rw [← hw0] at b0 n0
  have HW := Lib.hid hw0.symm
  have z0 : w0.heap.size = w.heap.size + 1 := by rw [hw0]; simp
  have b1 := below1 w0 (.map #[] 0)
  obtain ⟨w2, hw2⟩ : ∃ w2, w2 = w0.alloc (.map #[] 0) := ⟨_, rfl⟩
  have S2 : Sm w2 (w.heap.size + 1) [] := ⟨#[], 0, by rw [hw2, ← z0]; exact heap_alloc_new w0 _, rfl⟩
  rw [← hw2] at b1
  have z2 : w2.heap.size = w.heap.size + 1 + 1 := by rw [hw2, World.size_alloc, z0]
  have hmm : (Instr.makeMap 55 none).run Tryz.prog w0 = .ok (.map (some (w.heap.size + 1))) w2 := by
    rw [hw2, ← z0]
    simp [Instr.makeMap]
  have B2 : Below w.heap.size w w2 := b0.trans (b1.mono (by omega))
  have KF := Lib.hid (find_any L ad cap m w2 (h.below B2) (by omega) hk hkk hnm (hT.below B2))
  have HS := Lib.hid h
  obtain ⟨m0, m1, m2, m3, m4, m5, m6, m7, m8, m9, m10, m11, m12⟩ := (n0.below b1).c13
  have hTl := tk_len (tl m.tp) m.k L
  have HTL := Lib.hid (tk_lt (tl m.tp) m.k L)
  have HSM := Lib.hid S2
  obtain ⟨T, hTT⟩ : ∃ T, T = tkR (tl m.tp) m.k L := ⟨_, rfl⟩
  have hhd : hdl (tl m.tp) m.k L = ded [] (T.map (hof L)) := by rw [hTT]; rfl
  rw [hhd]
  rw [← hTT] at KF hTl HTL
  clear h hk hkk hnm hT hw0 n0 hTT hhd S2 hw2 b0 b1
  go_enter Tryz.func12, Tryz.ntmps12
  go_wp2_with (rw [HW.out])
  refine KF.out.mono ?_
  rintro e w3 ⟨sv, rfl, hri, b3⟩
  clear m0 m1 m2 m3 m4 m5 m6 m7 m8 m9 m10 m11 m12 hmm
  have hs3 := b3.size
  have H0 : Hw (w.heap.size + 1) w w3 (.slice none 0 0) [] w3 := ⟨B2.trans (b3.mono (by omega)), Nat.le_refl _, fun _ _ _ => rfl, HSM.out.heap (b3.block _ (by omega)), World.ownsRow_nil _ _ _ _⟩
  obtain ⟨ta, tc, rfl, hri2⟩ := hri
  simp only [List.length_map] at hri2 ⊢
  have hfd : ∀ (v0 v1 : Value) (w : World), (Instr.field 33 (.agg #[v0, v1]) 0).run Tryz.prog w = .ok v0 w := fun _ _ _ => by kernel_rfl
  have HO := Lib.hid hri2
  have HH0 := Lib.hid H0
  have hmc : ∀ j g u, w3.cell? ⟨g, j, none⟩ = some u → g ≠ w.heap.size + 1 := fun j g u hc e => by
    subst e
    obtain ⟨es, ck, h9, -⟩ := H0.m
    simp [World.cell?, h9] at hc
  have HMC := Lib.hid hmc
  clear hri2 KF H0 hmc
  go_wp2_with (rw [hfd])
  clear hfd
  go_loopg [5, 18] T.length (fun g s5 s18 wx => ∃ (q : Nat) (O : List Int), q + g = T.length ∧ s18 = .int .i64 q ∧ O = ded [] ((T.take q).map (hof L)) ∧ Hw (w.heap.size + 1) w w3 s5 O wx)
  case atStart => exact ⟨0, [], by omega, rfl, rfl, HH0.out⟩
  case round =>
    obtain ⟨q, O, hqg, rfl, hOe, hW⟩ := hrel
    have HE := Lib.hid hOe
    clear hOe
    have HO2 := Lib.hid hW
    obtain ⟨oa, oc, rfl⟩ := row_form hW.own
    clear hW
    cases gk with
    | zero =>
      obtain rfl : q = T.length := by omega
      go_wp2
      go_ret
      refine ⟨_, rfl, ?_, HO2.out.below⟩
      have hOT : O = ded [] (T.map (hof L)) := by have := HE.out; rwa [List.take_length] at this
      rw [← hOT]
      exact own_ri HO2.out.own
    | succ gq =>
      have hq : q < T.length := by omega
      obtain ⟨i, hi⟩ : ∃ i, T[q]? = some i := ⟨_, List.getElem?_eq_getElem hq⟩
      obtain ⟨x, hx⟩ := HTL.out i (List.mem_of_getElem? hi)
      have hdt := ded_take L T q i x hi hx
      have HDT := Lib.hid hdt
      clear hdt
      have hil : i < L.length := (List.getElem?_eq_some_iff.1 hx).1
      have tq : ∃ g o, ta = some ⟨g, o, none⟩ ∧ wr.cell? ⟨g, o + q, none⟩ = some (.int .i64 i) := by
        rcases HO.out with h | ⟨g, o, e, h⟩
        · simp at h; subst h; simp at hq
        · have h9 := h q (i : Int) (by simp [hi])
          refine ⟨g, o, e, ?_⟩
          rw [← h9]
          exact World.cell?_of_block (HO2.out.oth g (World.block_lt_of_cell? w3 _ h9) (HMC.out _ _ _ h9))
      obtain ⟨g, og, rfl, tq⟩ := tq
      obtain ⟨b, of, rfl, cc, -, -⟩ := (HS.out.below HO2.out.below).at i x hx
      obtain ⟨f, n, t, o, a, wd, wl, wc, hh, xe⟩ := x
      obtain ⟨-, -, -, -, c4, -⟩ := cc
      simp only at c4 HDT
      rw [← HE.out] at HDT
      have hOl : O.length ≤ 400 := by
        rw [HE.out]
        have := ded_len ((T.take q).map (hof L)) []
        simp only [List.length_nil, List.length_map, List.length_take] at this
        omega
      clear hi hx HE HMC
      have hq' : ((q : Nat) : Int) < (T.length : Int) := by omega
      have hil' : ((i : Nat) : Int) < (L.length : Int) := by omega
      have hi0' : (0 : Int) ≤ (i : Int) := by omega
      have hql := HO2.out.sz
      have hlook := look_sm wr (w.heap.size + 1) O HO2.out.m hh
      by_cases hm : hh ∈ O
      · have hdm : decide (hh ∈ O) = true := decide_eq_true hm
        have HM := Lib.hid hm
        rw [hdm] at hlook
        clear hm hdm
        go_wp2
        go_roundg gq
        case measure => omega
        case rel =>
          refine ⟨q + 1, O, by omega, by simp, ?_, HO2.out.step (by omega) (below1 _ _)⟩
          rw [HDT.out, if_pos HM.out]
      · have hdm : decide (hh ∈ O) = false := decide_eq_false hm
        have HM := Lib.hid hm
        rw [hdm] at hlook
        have h4 := HO2.out.step (by omega) (below1 wr (.cells #[] 56))
        obtain ⟨w6, hupd, hm6, hg6, hs6⟩ := upd_sm _ (w.heap.size + 1) O h4.m hh hm
        have H4 := Lib.hid h4
        have hown : w6.ownsRow w3.heap.size 3 1 (.slice oa O.length oc) O.length (iv O) := by
          refine World.ownsRow.kept (row := some (w.heap.size + 1)) h4.own hg6 (.inr fun e => ?_)
          have := (h4.own.lt _ e).1
          omega
        have hs4 : (wr.alloc (.cells #[] 56)).heap.size = wr.heap.size + 1 := by simp
        have HM6 := Lib.hid hm6
        have HG6 := Lib.hid hg6
        have HS6 := Lib.hid hs6
        have hw6 : w3.heap.size ≤ w6.heap.size := by omega
        clear hm hdm h4 hm6 hg6 hs6 hs4
        go_wp2_with (at_builtin; refine wpList_append_own _ rfl _ _ 31 rfl w3.heap.size 3 i0 (.int .i64 0) 1 8 Tryz.underlying31 hi0 hz0 hz1 hz2 rfl (by decide) _ _ _ rfl (hown.alloc _) ⟨w6.heap.size, 0, none⟩ 1 1 [.int .i64 hh] rfl rfl (cell_one_new _ _ _) (by intro u hu; simp at hu; subst hu; rfl) (by unfold maxLen; omega) (by omega) (by simp; omega) ?_; intro v1 w7 hown7 hgrow7 hnil7; obtain ⟨va, vc, rfl⟩ := row_form hown7)
        go_roundg gq
        case measure => omega
        case rel =>
          refine ⟨q + 1, O ++ [hh], by omega, by simp, ?_, H4.out.add (by omega) (by omega) HM6.out HG6.out HS6.out hgrow7 (by simpa using hown7)⟩
          rw [HDT.out, if_neg HM.out]
end Go.Proofs.YtkgbpildikjoiaaGreatDoor
namespace Go.Proofs.YtkgbpildikjoiaaGreatDoor
open Go.RowKit Go.Shelf

theorem sizeB : (Tryz.prog.info? 61).map (·.size) = some 2 := by kernel_rfl
theorem liesB : liesAt Tryz.prog Tryz.prog.depth 61 (2 / Tryz.prog.cellsOf 61) 0 61 1 = true := by kernel_rfl
theorem infoU8 : (Tryz.prog.info? 5).map (fun i => (i.zero, i.size, i.bytes)) = some (some (.int .u8 0), 1, 1) := by kernel_rfl

theorem toU (b : Nat) (w : World) (hsh : w.shape? b = some (61, 2)) : (convert 58 86 (.pointer (some ⟨b, 0, none⟩))).run Tryz.prog w = .ok (.pointer (some ⟨b, 0, none⟩)) w := by
  obtain ⟨j, hj, hjs⟩ := Option.map_eq_some_iff.1 sizeB
  have h0 : ¬ j.size = 0 := by rw [hjs]; decide
  simp! [convert, run_underlying Tryz.underlying58, run_underlying Tryz.underlying86, Conv.seenAt, viewAt, cellsIn, hsh, Go.sizeOf, typeInfo, hj, h0]
  conv => lhs; arg 2; whnf
  simp! [run_underlying Tryz.underlying58, run_underlying Tryz.underlying86, Tryz.underlying58, Tryz.underlying86]
  change Sem.run Tryz.prog (Bind.bind (pure _) _) w = _
  simp [Conv.seenAt, viewAt, cellsIn, hsh, Go.sizeOf, typeInfo, hj, h0, run_underlying Tryz.underlying86]
theorem fromU (b : Nat) (w : World) (hsh : w.shape? b = some (61, 2)) : (convert 86 58 (.pointer (some ⟨b, 0, none⟩))).run Tryz.prog w = .ok (.pointer (some ⟨b, 0, none⟩)) w := by
  obtain ⟨j, hj, hjs⟩ := Option.map_eq_some_iff.1 sizeB
  have h0 : ¬ j.size = 0 := by rw [hjs]; decide
  have hl := liesB
  simp! [convert, run_underlying Tryz.underlying58, run_underlying Tryz.underlying86]
  conv => lhs; arg 2; whnf
  simp! [run_underlying Tryz.underlying58, run_underlying Tryz.underlying86, Tryz.underlying58, Tryz.underlying86]
  change Sem.run Tryz.prog (Bind.bind (pure _) _) w = _
  simp [Conv.seenAt, viewAt, hsh, Go.sizeOf, typeInfo, hj, h0, variablesAt, hl, run_underlying Tryz.underlying58]

set_option maxRecDepth 100000 in
set_option maxHeartbeats 2000000 in
theorem copyCheck_used (b : Nat) (w : World) (h0 : w.cell? ⟨b, 0, none⟩ = some (.pointer (some ⟨b, 0, none⟩))) :
    Calls Tryz.prog 40 #[.pointer (some ⟨b, 0, none⟩)] w fun e w' => e = .returned (.tuple #[]) ∧ w' = w := by
  obtain ⟨j, hj, _⟩ := Option.map_eq_some_iff.1 sizeB
  go_enter Tryz.func40, Tryz.ntmps40
  go_wp2
  rw [Lib.run_neq_ptr_same w _ Tryz.underlying58 hj]
  go_wp2
  go_end0
  exact ⟨rfl, rfl⟩

set_option maxRecDepth 100000 in
set_option maxHeartbeats 2000000 in
theorem copyCheck_fresh (b : Nat) (w : World) (h0 : w.cell? ⟨b, 0, none⟩ = some (.pointer none)) (hsh : w.shape? b = some (61, 2)) (hfz : w.frozen? ⟨b, 0, none⟩ = false) :
    Calls Tryz.prog 40 #[.pointer (some ⟨b, 0, none⟩)] w fun e w' => e = .returned (.tuple #[]) ∧ w' = w.setCell ⟨b, 0, none⟩ (.pointer (some ⟨b, 0, none⟩)) := by
  obtain ⟨j, hj, hjs⟩ := Option.map_eq_some_iff.1 sizeB
  go_enter Tryz.func40, Tryz.ntmps40
  go_wp2
  rw [toU b w hsh]
  simp only [Result.andThen]
  rw [Oper.upon_value]
  go_wp2
  rw [run_callFunc_extern Tryz.func48 (by kernel_rfl) (by kernel_rfl) (by kernel_rfl) (e := Extern.AbiNoEscape.same) (by kernel_rfl)]
  rw [Lib.run_noEscape]
  simp only [Result.andThen]
  rw [Oper.upon_value]
  go_wp2
  rw [fromU b w hsh]
  simp only [Result.andThen]
  rw [Oper.upon_value]
  go_wp2
  go_end0
  exact ⟨rfl, rfl⟩

theorem copyCheck_k (B b : Nat) (bs : List Value) (w : World) (h : Lib.IsBuilderF 61 5 B b bs w) :
    Calls Tryz.prog 40 #[.pointer (some ⟨b, 0, none⟩)] w fun e w' => e = .returned (.tuple #[]) ∧ (Lib.BuilderAtF 61 5 B b (.pointer (some ⟨b, 0, none⟩)) bs w' ∧ Below B w w' ∧ Lib.OthersKept 5 (some b) w w') := by
  rcases h with h | h
  · refine (copyCheck_fresh b w h.cell0 h.shape h.frozen0).mono ?_
    rintro e w' ⟨rfl, rfl⟩
    exact ⟨rfl, h.used _, (Below.refl B w).setCell (p := ⟨b, 0, none⟩) h.1 _, (Lib.OthersKept.refl _ _ w).setCell ⟨b, 0, none⟩ rfl _⟩
  · refine (copyCheck_used b w h.cell0).mono ?_
    rintro e w' ⟨rfl, rfl⟩
    exact ⟨rfl, h, Below.refl B _, Lib.OthersKept.refl _ _ _⟩

set_option maxRecDepth 100000 in
set_option maxHeartbeats 2000000 in
theorem writeString_k (B b : Nat) (bs : List Value) (s : ByteArray) (w : World) (h : Lib.IsBuilderF 61 5 B b bs w) (hlen : bs.length + s.size ≤ 140737488355328) (hBw : B ≤ w.heap.size) :
    Calls Tryz.prog 22 #[.pointer (some ⟨b, 0, none⟩), .string s] w fun e w' => e = .returned (.tuple #[.int .i64 s.size, .nilIface]) ∧ (Lib.BuilderAtF 61 5 B b (.pointer (some ⟨b, 0, none⟩)) (bs ++ Lib.strCells s) w' ∧ Below B w w' ∧ Lib.OthersKept 5 (some b) w w') := by
  obtain ⟨i0, hi, hz0, hz1, hz2⟩ := info_parts infoU8
  go_enter Tryz.func22, Tryz.ntmps22
  go_wp2_with (go_at_call 40; refine (copyCheck_k B b bs _ h).mono ?_)
  rintro e w1 ⟨rfl, h1, hb1, hk1⟩
  obtain ⟨hB, v, hbk, hown, hne⟩ := h1
  have c0 : w1.cell? ⟨b, 0, none⟩ = some (.pointer (some ⟨b, 0, none⟩)) := by rw [Lib.cell_of_heap hbk]; rfl
  have c1 : w1.cell? ⟨b, 1, none⟩ = some v := by rw [Lib.cell_of_heap hbk]; rfl
  go_wp2_with (at_builtin; refine Lib.wpList_append_own_stringF _ rfl _ _ 59 9 rfl B 5 i0 Tryz.underlying59 Tryz.underlying9 hi hz0 hz1 hz2 _ _ _ rfl hown s rfl ?c3 ?c4 ?c5 ?_)
  case c3 => unfold maxLen; omega
  case c4 => omega
  case c5 => have := hb1.size; omega
  intro v' w2 hown' hgrow _
  have hlt : b < w1.heap.size := by
    rcases Nat.lt_or_ge b w1.heap.size with h' | h'
    · exact h'
    · simp [Array.getElem?_eq_none h'] at hbk
  have hb2 : w2.heap[b]? = some (.cells #[.pointer (some ⟨b, 0, none⟩), v] 61 (0, 0)) := by
    rw [hgrow.block b hlt (fun e => hne e.symm)]
    exact hbk
  have d0 : w2.cell? ⟨b, 0, none⟩ = some (.pointer (some ⟨b, 0, none⟩)) := by rw [Lib.cell_of_heap hb2]; rfl
  have d1 : w2.cell? ⟨b, 1, none⟩ = some v := by rw [Lib.cell_of_heap hb2]; rfl
  have f1 : w2.frozen? ⟨b, 1, none⟩ = false := Lib.frozen_of_heap hb2 1
  obtain ⟨ao, n', cap, rfl⟩ : ∃ ao n' cap, v' = .slice ao n' cap := by
    rcases hown'.2 with ⟨hv, _⟩ | ⟨g, cap, cur, fz, hv, _⟩
    · exact ⟨_, _, _, hv⟩
    · exact ⟨_, _, _, hv⟩
  go_wp2
  go_ret2
  refine ⟨rfl, ?_, ?_, (hk1.grown hgrow (Lib.ownsRowF_kind hown)).setCell ⟨b, 1, none⟩ rfl _⟩
  · exact Lib.BuilderAtF.put (T := 61) (e := 5) hB hb2 (bs' := bs ++ Lib.strCells s) (by simpa [Lib.strCells_length] using hown') (by decide)
  · exact (hb1.grown hgrow (by have := hb1.size; omega) (fun k hk => (hown.lt k hk).1)).setCell (p := ⟨b, 1, none⟩) hB _

/-- A builder stays one while new memory is made, and while what is no row of cells turns. -/
theorem builder_kept {B b : Nat} {bs : List Value} {w w' : World} {row : Option Nat} (h : Lib.IsBuilderF 61 5 B b bs w) (hg : w.grownBy w' row) (hr : ∀ r, row = some r → ∃ o : Obj, w.heap[r]? = some o ∧ o.isCells = false) : Lib.IsBuilderF 61 5 B b bs w' := by
  have key : ∀ p, Lib.BuilderAtF 61 5 B b p bs w → Lib.BuilderAtF 61 5 B b p bs w' := fun p ⟨hB, v, hb, hown, hne⟩ => by
    have hlt : b < w.heap.size := (Array.getElem?_eq_some_iff.1 hb).1
    have nb : row ≠ some b := fun e => by
      obtain ⟨o, ho, hc⟩ := hr b e
      rw [hb] at ho
      cases ho
      cases hc
    refine ⟨hB, v, (hg.block b hlt (fun e => nb e.symm)).trans hb, hown.kept hg ?_, hne⟩
    rcases hown.2 with ⟨rfl, _⟩ | ⟨g, cap, cur, fz, rfl, _, hg2, _⟩
    · exact .inl rfl
    · refine .inr fun e => ?_
      obtain ⟨o, ho, hc⟩ := hr g e.symm
      rw [hg2] at ho
      cases ho
      cases hc
  exact h.elim (fun x => .inl (key _ x)) (fun x => .inr (key _ x))
end Go.Proofs.YtkgbpildikjoiaaGreatDoor
namespace Go.Proofs.YtkgbpildikjoiaaGreatDoor

/-- An end that is none but the usual one. -/
def OnlyN (Q : Exit → Act → World → Prop) : Exit → Act → World → Prop
  | .normal, a, w => Q .normal a w
  | _, _, _ => False
theorem OnlyN.to {Q : Exit → Act → World → Prop} : ∀ (e : Exit) (a : Act) (w : World), OnlyN Q e a w → Q e a w := fun e a w h => by
  cases e <;> first | exact h | exact h.elim

theorem op_in {l n : Nat} {P : Program} {ops : Array Oper} {Q : Exit → Act → World → Prop} (hd : ∀ (i : Nat) (o : Oper), ops[i]? = some o → ∀ c, o.op ≠ .defer c) {i : Nat} {K K' : Act → World → Prop} {a : Act} {w : World} (hk : ∀ a w, K a w → K' a w) (h : wpOp P ops (OnlyN Q) i K a w) : wpOpIn (Fence.wide.inRound l) n P ops (OnlyN Q) i K' a w := by
  unfold wpOp at h
  unfold wpOpIn
  cases ho : ops[i]? with
  | none => simp only [ho] at h ⊢; exact hk _ _ h
  | some o =>
    simp only [ho] at h ⊢
    split
    · next hw =>
      rw [if_pos hw] at h
      rcases h with h | ⟨-, _, _, h⟩
      · unfold Oper.wp at h
        unfold Oper.wpIn
        refine ⟨fun _ _ => trivial, ?_⟩
        rw [Oper.semAt_plain _ _ _ (hd i o ho)]
        generalize (execOp a.eval o).run P w = r at h
        match r, h with
        | .ok (.value v) w', h => exact hk _ _ h
        | .ok .skip w', h => exact hk _ _ h
        | .ok (.defer d) w', h => exact hk _ _ h
        | .ok (.enter f args) w', h =>
          refine ⟨(fun h9 => by cases h9), CallsIn.inRound l (callsIn_wide.2 (Calls.mono h ?_))⟩
          intro e w'' hx
          cases e with
          | returned v => exact hk _ _ hx
          | panicked c => exact hx
          | outgrown => exact hx
        | .ok (.row row args) w', h =>
          refine ⟨(fun h9 => by cases h9), fun c cs _ => ?_⟩
          obtain ⟨v, w'', hr, hs⟩ := h c cs
          exact ⟨v, w'', hk _ _ hr, stepsIn_wide.2 hs⟩
        | .halt (.panic v) w', h => exact h
      · exact h.elim
    · next hw =>
      rw [if_neg hw] at h
      exact ⟨fun _ _ => trivial, hk _ _ h⟩

theorem any_in {l n : Nat} {P : Program} {md : Region.Mode} {ops : Array Oper} {Q : Exit → Act → World → Prop} (hd : ∀ (i : Nat) (o : Oper), ops[i]? = some o → ∀ c, o.op ≠ .defer c) : ∀ (fuel : Nat) (listed : Array Bool) (a : Act) (w : World), wpAny P md ops (OnlyN Q) fuel listed a w → wpAnyIn (Fence.wide.inRound l) n P md ops (OnlyN Q) fuel listed a w
  | 0, _, _, _, h => h
  | _ + 1, _, _, _, h => ⟨h.1, fun i hi => op_in hd (fun a w => any_in hd _ _ a w) (h.2 i hi)⟩

def isDefer : Op → Bool
  | .defer _ => true
  | _ => false
theorem no_defer {ops : Array Oper} (h : (ops.toList.all fun o => !isDefer o.op) = true) : ∀ (i : Nat) (o : Oper), ops[i]? = some o → ∀ c, o.op ≠ .defer c := fun i o ho c e => by
  have h1 := List.all_eq_true.1 h o (List.mem_of_getElem? (by rw [Array.getElem?_toList]; exact ho))
  rw [e] at h1
  cases h1
/-- Such a region in a round. -/
theorem region_in {l n id : Nat} {P : Program} {ops : Array Oper} {Q : Exit → Act → World → Prop} {a : Act} {w : World} (S : World → Prop) (hm : P.follows .mixedOrders = true) (hd : ∀ (i : Nat) (o : Oper), ops[i]? = some o → ∀ c, o.op ≠ .defer c) (hS : S w.drew) (h : S w.drew → wpAnyH P .any ops (OnlyN Q) S ops.size (Array.replicate ops.size false) a w.drew) : (Code.region id ops true).wpIn (Fence.wide.inRound l) n P Q a w :=
  wpIn_mono (wpIn_region_any hm (any_in hd _ _ _ _ (wpAny_of_held _ _ _ _ (h hS)))) OnlyN.to
end Go.Proofs.YtkgbpildikjoiaaGreatDoor
namespace Go.Proofs.YtkgbpildikjoiaaGreatDoor
open Go.RowKit Tp Go.Shelf
attribute [local go_sem] Oper.semAt_some

/-- The word that is told of a route. -/
def wof (f : Int) (xe E : Bool) : ByteArray :=
  if f = 0 then ⟨#[116, 111, 112, 105, 99]⟩ else if f = 1 then ⟨#[116, 121, 112, 101]⟩ else if xe = false then ⟨#[116, 97, 107, 101, 115]⟩ else if E = true then ⟨#[101, 108, 115, 101]⟩ else ⟨#[115, 112, 97, 114, 101]⟩
theorem wof_size (f : Int) (xe E : Bool) : (wof f xe E).size ≤ 5 := by
  unfold wof
  split
  · decide
  split
  · decide
  split
  · decide
  split <;> decide
theorem wof_wrd (tp : Bs) (k : Int) (E : Bool) (x : Ro) : wrd tp k E x = ⟨#[32]⟩ ++ wof (fo tp k x) x.e E := by
  unfold wrd wof fo
  cases x.tp tp with
  | false => rfl
  | true =>
    cases x.ty k with
    | false => rfl
    | true =>
      cases x.e with
      | false => rfl
      | true => cases E <;> rfl

set_option maxRecDepth 100000 in
set_option maxHeartbeats 1000000 in
theorem word_any (f : Int) (xe E : Bool) (w : World) : Calls Tryz.prog 24 #[.int .i64 f, .bool xe, .bool E] w fun e w' => e = .returned (.string (wof f xe E)) ∧ w' = w := by
  unfold wof
  by_cases h0 : f = 0
  · subst h0
    go_enter Tryz.func24, Tryz.ntmps24
    go_wp2
    go_ret
    exact ⟨rfl, rfl⟩
  · have e0 : (f == 0) = false := by simpa using h0
    by_cases h1 : f = 1
    · subst h1
      go_enter Tryz.func24, Tryz.ntmps24
      go_wp2
      go_ret
      exact ⟨rfl, rfl⟩
    · have e1 : (f == 1) = false := by simpa using h1
      rw [if_neg h0, if_neg h1]
      clear h0 h1
      cases xe <;> cases E <;> (go_enter Tryz.func24, Tryz.ntmps24; go_wp2; go_ret; exact ⟨rfl, rfl⟩)

/-- Explain on its way: the routes' box, the builder with what is told so far, the box of what Find said, the iterator's own. -/
structure Ex (N Be Bl Bm Bu : Nat) (lc mc uc : Array Value) (E : Bool) (S : ByteArray) (w wx : World) : Prop where
  below : Below N w wx
  sz : Bu < wx.heap.size ∧ N + 1 + 1 < wx.heap.size
  l : Bk wx N lc 22
  b : Lib.IsBuilderF 61 5 (N + 1 + 1) (N + 1 + 1) (Lib.strCells S) wx
  e : Bk wx Be #[.bool E] 4
  il : Bk wx Bl lc 22
  im : Bk wx Bm mc 28
  iu : Bk wx Bu uc 20
theorem Ex.step {N Be Bl Bm Bu : Nat} {lc mc uc : Array Value} {E : Bool} {S : ByteArray} {w wx wy : World} (h : Ex N Be Bl Bm Bu lc mc uc E S w wx) (hb : Below wx.heap.size wx wy) : Ex N Be Bl Bm Bu lc mc uc E S w wy :=
  ⟨h.below.trans (hb.mono (by have := h.sz.2; omega)), ⟨Nat.lt_of_lt_of_le h.sz.1 hb.size, Nat.lt_of_lt_of_le h.sz.2 hb.size⟩, h.l.below hb, builder_kept (row := none) h.b ⟨hb.os, hb.tape, hb.output, hb.size, fun k hk _ => hb.block k hk⟩ (fun r e => by cases e), h.e.below hb, h.il.below hb, h.im.below hb, h.iu.below hb⟩
theorem Ex.put {N Be Bl Bm Bu : Nat} {lc mc uc : Array Value} {E : Bool} {S : ByteArray} {w wx : World} (h : Ex N Be Bl Bm Bu lc mc uc E S w wx) {k : Nat} {o o' : Obj} (hk : wx.heap[k]? = some o) (hc : o.isCells = false) (hB : N ≤ k) : Ex N Be Bl Bm Bu lc mc uc E S w (wx.putObj k o') :=
  ⟨h.below.trans (below_put wx k o' N hB (Array.getElem?_eq_some_iff.1 hk).1), by simpa using h.sz, h.l.put hk hc, builder_kept (row := some k) h.b (grownBy_putObj' wx k o') (fun r e => by cases e; exact ⟨o, hk, hc⟩), h.e.put hk hc, h.il.put hk hc, h.im.put hk hc, h.iu.put hk hc⟩
theorem bk_others {w w' : World} {M b : Nat} {cs : Array Value} {T e : TypeId} (h : Bk w M cs T) (ho : Lib.OthersKept e (some b) w w') (hM : M ≠ b) (hT : T ≠ e) : Bk w' M cs T :=
  ho M _ h (by simpa using hM) (fun c fz e => by cases e; exact hT rfl)
/-- A line more. -/
theorem Ex.line {N Be Bl Bm Bu : Nat} {lc mc uc : Array Value} {E : Bool} {S s : ByteArray} {w wx wa wy : World} (h : Ex N Be Bl Bm Bu lc mc uc E S w wx) (hNe : N + 1 + 1 < Be) (hNl : N + 1 + 1 < Bl) (hNm : N + 1 + 1 < Bm) (hNu : N + 1 + 1 < Bu) (ha : Below wx.heap.size wx wa)
    (hb : Lib.BuilderAtF 61 5 (N + 1 + 1) (N + 1 + 1) (.pointer (some ⟨N + 1 + 1, 0, none⟩)) (Lib.strCells S ++ Lib.strCells s) wy) (hlow : Below (N + 1 + 1) wa wy) (hk : Lib.OthersKept 5 (some (N + 1 + 1)) wa wy) (B : Nat) (hB : N + 1 + 1 < B) :
    Ex N Be Bl Bm Bu lc mc uc E (S ++ s) w wy ∧ Below N wx wy ∧ (∀ k, (k = Bl ∨ k = Bm ∨ k = Bu) → wy.heap[k]? = wx.heap[k]?) ∧ KeepsFrom B wx wy := by
  have h1 := h.step ha
  have hsz := h.sz
  have hsa := ha.size
  have hsy := hlow.size
  have e1 : Lib.strCells (S ++ s) = Lib.strCells S ++ Lib.strCells s := by simp [Lib.strCells, ByteArray.data_append]
  have kl := bk_others h1.il hk (by omega) (by decide)
  have km := bk_others h1.im hk (by omega) (by decide)
  have ku := bk_others h1.iu hk (by omega) (by decide)
  have bl : Below N wx wy := (ha.mono (by omega)).trans (hlow.mono (by omega))
  refine ⟨⟨h.below.trans bl, by omega, bk_others h1.l hk (by omega) (by decide), by rw [e1]; exact .inr hb, bk_others h1.e hk (by omega) (by decide), kl, km, ku⟩, bl, ?_, ⟨by omega, fun k o hB2 h2 h3 => ?_⟩⟩
  · rintro k (rfl | rfl | rfl)
    · exact kl.trans h.il.symm
    · exact km.trans h.im.symm
    · exact ku.trans h.iu.symm
  · have h4 := (ha.block k (Array.getElem?_eq_some_iff.1 h2).1).trans h2
    exact hk k o h4 (by simp; omega) (fun c fz e => by rw [e] at h3; cases h3)

theorem builder_new {w : World} {N : Nat} (h : Bk w N #[.pointer none, .slice none 0 0] 61) : Lib.IsBuilderF 61 5 N N (Lib.strCells ⟨#[]⟩) w :=
  .inl ⟨Nat.le_refl _, .slice none 0 0, h, World.ownsRowF_of (World.ownsRow_nil _ _ _ _), by simp [Value.ownBlock]⟩
theorem exf_next (tp : Bs) (k : Int) (E : Bool) (L : List Ro) (j : Nat) (x : Ro) (hx : L[j]? = some x) : exf tp k E L (j + 1) = exf tp k E L j ++ (((⟨(Lib.itoa j).toArray⟩ ++ ⟨#[32]⟩) ++ wof (fo tp k x) x.e E) ++ ⟨#[10]⟩) := by
  simp only [exf, hx, wof_wrd, ByteArray.append_assoc]

set_option maxRecDepth 100000 in
set_option maxHeartbeats 4000000 in
theorem explain_any : KExp := by
  intro L ad cap m w h hl hk hkk hnm hT hP
  have hmt := isName_size hnm
  refine (callsIn_wide (n := 5)).1 ?_
  refine callsIn_of_wp_marks Tryz.func14 rfl trivial ?_ rfl
  simp only [Tryz.ntmps14, List.size_toArray, List.length_cons, List.length_nil, Nat.reduceAdd, Nat.reduceSub, Array.replicate_succ, Array.replicate_zero, List.push_toArray, List.append_toArray, List.nil_append, List.cons_append]
  have HS := Lib.hid h
  have HK := Lib.hid hk
  have HT := Lib.hid hT
  have HP := Lib.hid hP
  obtain ⟨w1, hw1⟩ : ∃ w1, w1 = w.alloc (.cells #[.slice ad L.length cap] 22) := ⟨_, rfl⟩
  have b1 := below1 w (.cells #[.slice ad L.length cap] 22)
  have z1 : w1.heap.size = w.heap.size + 1 := by rw [hw1, World.size_alloc]
  rw [← hw1] at b1
  have HW1 := Lib.hid hw1.symm
  obtain ⟨w2, hw2⟩ : ∃ w2, w2 = w1.alloc (.cells m.cs 28) := ⟨_, rfl⟩
  have b2 := below1 w1 (.cells m.cs 28)
  have z2 : w2.heap.size = w.heap.size + 1 + 1 := by rw [hw2, World.size_alloc, z1]
  rw [← hw2] at b2
  have HW2 := Lib.hid hw2.symm
  obtain ⟨w3, hw3⟩ : ∃ w3, w3 = w2.alloc (.cells #[.pointer none, .slice none 0 0] 61) := ⟨_, rfl⟩
  have b3 := below1 w2 (.cells #[.pointer none, .slice none 0 0] 61)
  have z3 : w3.heap.size = w.heap.size + 1 + 1 + 1 := by rw [hw3, World.size_alloc, z2]
  rw [← hw3] at b3
  have HW3 := Lib.hid hw3.symm
  have B3 : Below w.heap.size w w3 := (b1.trans (b2.mono (by omega))).trans (b3.mono (by omega))
  have a1 : Bk w3 w.heap.size #[.slice ad L.length cap] 22 := by
    have := Bk.new w #[.slice ad L.length cap] 22
    rw [← hw1] at this
    exact (this.below b2).below b3
  have a2 : Bk w3 (w.heap.size + 1) m.cs 28 := by
    have := Bk.new w1 m.cs 28
    rw [← hw2, z1] at this
    exact this.below b3
  have a3 : Bk w3 (w.heap.size + 1 + 1) #[.pointer none, .slice none 0 0] 61 := by
    have := Bk.new w2 #[.pointer none, .slice none 0 0] 61
    rw [← hw3, z2] at this
    exact this
  have KF := Lib.hid (find_any L ad cap m w3 (h.below B3) (by omega) hk hkk hnm (hT.below B3))
  have l0 := a1.c 0
  obtain ⟨m0, m1, m2, m3, m4, m5, m6, m7, m8, m9, m10, m11, m12⟩ := a2.c13
  have A1' := Lib.hid a1
  have A2' := Lib.hid a2
  have A3' := Lib.hid a3
  clear h hk hT hP hw1 hw2 hw3 b1 b2 b3 a1 a2 a3
  generalize tkE (tl m.tp) m.k L = E at KF ⊢
  gi_wp2_with (first | rw [HW1.out] | rw [HW2.out] | rw [HW3.out])
  refine ⟨trivial, (callsIn_wide.2 KF.out).mono ?_⟩
  rintro e4 w4 ⟨sv, rfl, -, b4⟩
  clear l0 m0 m1 m2 m3 m4 m5 m6 m7 m8 m9 m10 m11 m12 KF
  have hfd : ∀ (v0 v1 : Value) (w : World), (Instr.field 33 (.agg #[v0, v1]) 1).run Tryz.prog w = .ok v1 w := fun _ _ _ => by kernel_rfl
  have b5 := below1 w4 (.cells #[.bool E] 4)
  have a5 := Bk.new w4 #[.bool E] 4
  obtain ⟨w5, hw5⟩ : ∃ w5, w5 = w4.alloc (.cells #[.bool E] 4) := ⟨_, rfl⟩
  rw [← hw5] at b5 a5
  have HW5 := Lib.hid hw5.symm
  have z5 : w5.heap.size = w4.heap.size + 1 := by rw [hw5]; simp
  have l0 := ((A1'.out.below b4).below b5).c 0
  obtain ⟨m0, m1, m2, m3, m4, m5, m6, m7, m8, m9, m10, m11, m12⟩ := ((A2'.out.below b4).below b5).c13
  have A5 := Lib.hid a5
  clear hw5 a5
  gi_wp2_with (first | rw [hfd] | rw [HW5.out])
  refine ⟨trivial, (inOrder_any _ ad L.length cap m w5).mono ?_⟩
  rintro e6 w6 ⟨Bl, Bm, Bu, u, rfl, hBl, hBm, hBu, bl, bm, bu, hu, b6⟩
  clear l0 m0 m1 m2 m3 m4 m5 m6 m7 m8 m9 m10 m11 m12
  have hs4 := b4.size
  have hs6 := b6.size
  have B6 : Below w3.heap.size w3 w6 := (b4.trans (b5.mono (by omega))).trans (b6.mono (by omega))
  have E6 : Ex w.heap.size w4.heap.size Bl Bm Bu #[.slice ad L.length cap] m.cs #[u] E ⟨#[]⟩ w w6 := ⟨B3.trans (B6.mono (by omega)), ⟨bu.lt, by omega⟩, A1'.out.below B6, builder_new (A3'.out.below B6), A5.out.below b6, bl, bm, bu⟩
  have H6 := Lib.hid E6
  gi_wp2
  refine range_gives (B := w.heap.size) (K := fun k => k = Bl ∨ k = Bm ∨ k = Bu) (N := L.length) (enc := enc2 (tl m.tp) m.k L) (gf := 38) (lb := #[.pointer (some ⟨Bl, 0, none⟩), .pointer (some ⟨Bm, 0, none⟩), .pointer (some ⟨Bu, 0, none⟩)]) rfl (enters_of Tryz.func38 (by kernel_rfl) rfl) (fun _ => rfl) (by omega) (fun k hk => by rcases hk with rfl | rfl | rfl <;> first | exact bl.lt | exact bm.lt | exact bu.lt)
    (iter_gives L ad cap m u w w6 HS.out (by omega) HK.out hkk hmt HT.out hu E6.below _ Bl Bm Bu (.inl rfl) (.inr (.inl rfl)) (.inr (.inr rfl)) bl bm bu)
    (fun j W => ∃ S, S = exf (tl m.tp) m.k E L j ∧ S.size ≤ 60 * j ∧ Ex w.heap.size w4.heap.size Bl Bm Bu #[.slice ad L.length cap] m.cs #[u] E S w W)
    (fun j A A' ⟨S, e1, e2, hF⟩ hb => ⟨S, e1, e2, hF.step hb⟩) (fun j A k o o' ⟨S, e1, e2, hF⟩ hk hc hB => ⟨S, e1, e2, hF.put hk hc (by omega)⟩) ⟨_, rfl, Nat.le_refl _, E6⟩ (fun j => { tmps := #[.slice ad L.length cap, .agg m.cs, .pointer (some ⟨w.heap.size, 0, none⟩), .pointer (some ⟨w.heap.size + 1, 0, none⟩), .string ⟨#[]⟩, .pointer (some ⟨w.heap.size + 1 + 1, 0, none⟩), .pointer (some ⟨w4.heap.size, 0, none⟩), .int .i64 j, .int .i64 (foj (tl m.tp) m.k L j), .slice ad L.length cap, .agg m.cs, .agg #[sv, .bool E], .bool E, .slice ad L.length cap, .agg m.cs, .func (.func 38) #[] #[.pointer (some ⟨Bl, 0, none⟩), .pointer (some ⟨Bm, 0, none⟩), .pointer (some ⟨Bu, 0, none⟩)], .int .i64 j, .int .i64 (foj (tl m.tp) m.k L j), undef, undef, undef, undef, undef, undef, undef, undef, undef, undef, undef, undef, undef, undef, undef], defers := [] }) ?assign ?body ?done
  case assign =>
    intro l j W K hK
    gi_wp2
    exact hK
  case body =>
    rintro l j W hj ⟨S, hS, hSz, hF⟩
    obtain ⟨x, hx⟩ : ∃ x, L[j]? = some x := ⟨_, List.getElem?_eq_getElem hj⟩
    have hne := exf_next (tl m.tp) m.k E L j x hx
    have hfo : foj (tl m.tp) m.k L j = fo (tl m.tp) m.k x := by simp only [foj, hx]
    rw [← hfo, ← hS] at hne
    obtain ⟨b, of, rfl, cc0, -, -⟩ := HS.out.at j x hx
    have hbN := cc0.lt
    have cc := cc0.below hF.below
    clear cc0
    obtain ⟨-, -, -, -, -, c5⟩ := cc
    have hbb := World.block_lt_of_cell? W _ c5
    have hjl : (j : Int) < (L.length : Int) := by omega
    generalize foj (tl m.tp) m.k L j = fj at hne
    generalize x.e = xe at c5 hne
    have hws := wof_size fj xe E
    have HIT : Hid (∀ wx, Below W.heap.size W wx → Calls Tryz.prog 23 #[.int .i64 (j : Int)] wx fun e w' => e = .returned (.string ⟨(Lib.itoa j).toArray⟩) ∧ Below W.heap.size W w') := Lib.hid fun wx hx => (itoa_any j (by omega) wx ((HP.out.below hF.below).below hx)).mono fun e w' ⟨p, q⟩ => ⟨p, hx.trans (q.mono hx.size)⟩
    have hil := itoa_len j (by omega)
    obtain ⟨I, hI⟩ : ∃ I : ByteArray, I = ⟨(Lib.itoa j).toArray⟩ := ⟨_, rfl⟩
    have hIs : I.size ≤ 21 := by rw [hI]; simpa [ByteArray.size] using hil
    rw [← hI] at HIT hne
    have HWD : Hid (∀ wx, Calls Tryz.prog 24 #[.int .i64 fj, .bool xe, .bool E] wx fun e w' => e = .returned (.string (wof fj xe E)) ∧ w' = wx) := Lib.hid fun wx => word_any fj xe E wx
    generalize wof fj xe E = wd at HWD hne hws
    have HWS : Hid (∀ wx (s : ByteArray), Below W.heap.size W wx → s.size ≤ 40 → Calls Tryz.prog 22 #[.pointer (some ⟨w.heap.size + 1 + 1, 0, none⟩), .string s] wx fun e w' => e = .returned (.tuple #[.int .i64 s.size, .nilIface]) ∧ (Ex w.heap.size w4.heap.size Bl Bm Bu #[.slice (some ⟨b, of, none⟩) L.length cap] m.cs #[u] E (S ++ s) w w' ∧ Below w.heap.size W w' ∧ (∀ k, (k = Bl ∨ k = Bm ∨ k = Bu) → w'.heap[k]? = W.heap[k]?) ∧ KeepsFrom w6.heap.size W w')) := Lib.hid fun wx s hx hs => by
      refine (writeString_k _ _ _ s wx (hF.step hx).b (by rw [Lib.strCells_length]; omega) (by have := (hF.step hx).sz; omega)).mono ?_
      rintro e w' ⟨p, q1, q2, q3⟩
      exact ⟨p, hF.line (by omega) (by omega) (by omega) (by omega) hx q1 q2 q3 _ (by omega)⟩
    have HC : Hid (∀ wx, Below W.heap.size W wx → wx.cell? ⟨w.heap.size, 0, none⟩ = some (.slice (some ⟨b, of, none⟩) L.length cap) ∧ wx.cell? ⟨b, of + j * 6 + 5, none⟩ = some (.bool xe) ∧ wx.cell? ⟨w4.heap.size, 0, none⟩ = some (.bool E)) := Lib.hid fun wx hx => ⟨(hF.step hx).l.c 0, (hx.cell (p := ⟨b, _, none⟩) hbb).trans c5, (hF.step hx).e.c 0⟩
    have s1 : ¬ 9223372036854775807 < I.size + 1 := by omega
    have s2 : ¬ 9223372036854775807 < I.size + 1 + wd.size := by omega
    have s3 : ¬ 9223372036854775807 < I.size + 1 + wd.size + 1 := by omega
    have hs5 : (((I ++ (⟨#[32]⟩ : ByteArray)) ++ wd) ++ (⟨#[10]⟩ : ByteArray)).size ≤ 28 := by rw [ByteArray.size_append, ByteArray.size_append, ByteArray.size_append]; show I.size + 1 + wd.size + 1 ≤ 28; omega
    have mixed : Tryz.prog.follows .mixedOrders = true := by kernel_rfl
    have HNE := Lib.hid hne
    have bW : Below W.heap.size W W.drew := (Below.refl _ W).drew
    have C5 := Lib.hid c5
    have HFX := Lib.hid hF
    clear hx hfo hne hS c5 hF H6 E6 bl bm bu hu b6 b4 b5 B6 A1' A2' A3' A5 HK HT HS HP hI hil
    gi_wp2
    refine region_in (fun w' => w'.cell? ⟨w.heap.size, 0, none⟩ = some (.slice (some ⟨b, of, none⟩) L.length cap) ∧ w'.cell? ⟨b, of + j * 6 + 5, none⟩ = some (.bool xe) ∧ w'.cell? ⟨w4.heap.size, 0, none⟩ = some (.bool E)) (by kernel_rfl) (no_defer (by kernel_rfl)) (HC.out _ bW) (fun hH0 => ?_)
    refine wpAnyH_take (i := 0) (oi := { dst := some 18, op := Op.move (Operand.tmp 7), type := 3, pos := _, after := #[], guard := none }) (v := ?tz1) rfl (by kernel_rfl) (by kernel_rfl) (by kernel_rfl) (fun _ _ _ h => h) (Or.inl ⟨by rfl, ?uz1⟩) (by assumption) ?rz1
    case uz1 => (intro w hSw; (try dsimp only at hSw); go_simp; (try with_reducible rfl))
    simp only [Act.put, List.setIfInBounds_toArray, List.set_cons_zero, List.set_cons_succ]
    refine wpAnyH_take (i := 3) (oi := { dst := some 21, op := Op.move (Operand.tmp 8), type := 54, pos := _, after := #[], guard := none }) (v := ?tz2) rfl (by kernel_rfl) (by kernel_rfl) (by kernel_rfl) (fun _ _ _ h => h) (Or.inl ⟨by rfl, ?uz2⟩) (by assumption) ?rz2
    case uz2 => (intro w hSw; (try dsimp only at hSw); go_simp; (try with_reducible rfl))
    simp only [Act.put, List.setIfInBounds_toArray, List.set_cons_zero, List.set_cons_succ]
    refine wpAnyH_take (i := 4) (oi := { dst := some 22, op := Op.load 22 (Operand.tmp 2), type := 22, pos := _, after := #[], guard := none }) (v := ?tz3) rfl (by kernel_rfl) (by kernel_rfl) (by kernel_rfl) (fun _ _ _ h => h) (Or.inl ⟨by rfl, ?uz3⟩) (by assumption) ?rz3
    case uz3 => (intro w hSw; (try dsimp only at hSw); go_simp; (try with_reducible rfl))
    simp only [Act.put, List.setIfInBounds_toArray, List.set_cons_zero, List.set_cons_succ]
    refine wpAnyH_take (i := 5) (oi := { dst := some 23, op := Op.move (Operand.tmp 7), type := 3, pos := _, after := #[], guard := none }) (v := ?tz4) rfl (by kernel_rfl) (by kernel_rfl) (by kernel_rfl) (fun _ _ _ h => h) (Or.inl ⟨by rfl, ?uz4⟩) (by assumption) ?rz4
    case uz4 => (intro w hSw; (try dsimp only at hSw); go_simp; (try with_reducible rfl))
    simp only [Act.put, List.setIfInBounds_toArray, List.set_cons_zero, List.set_cons_succ]
    refine wpAnyH_take (i := 6) (oi := { dst := some 24, op := Op.indexAddr 22 (Operand.tmp 22) (Operand.tmp 23), type := 0, pos := _, after := #[{ on := 4, ground := Ground.data }, { on := 5, ground := Ground.data }], guard := none }) (v := ?tz5) rfl (by kernel_rfl) (by kernel_rfl) (by kernel_rfl) (fun _ _ _ h => h) (Or.inl ⟨by rfl, ?uz5⟩) (by assumption) ?rz5
    case uz5 => (intro w hSw; (try dsimp only at hSw); go_simp; (try with_reducible rfl))
    simp only [Act.put, List.setIfInBounds_toArray, List.set_cons_zero, List.set_cons_succ]
    refine wpAnyH_take (i := 7) (oi := { dst := some 25, op := Op.fieldAddr 45 (Operand.tmp 24) 3, type := 0, pos := _, after := #[{ on := 6, ground := Ground.data }], guard := none }) (v := ?tz6) rfl (by kernel_rfl) (by kernel_rfl) (by kernel_rfl) (fun _ _ _ h => h) (Or.inl ⟨by rfl, ?uz6⟩) (by assumption) ?rz6
    case uz6 => (intro w hSw; (try dsimp only at hSw); go_simp; (try with_reducible rfl))
    simp only [Act.put, List.setIfInBounds_toArray, List.set_cons_zero, List.set_cons_succ]
    refine wpAnyH_take (i := 8) (oi := { dst := some 26, op := Op.load 4 (Operand.tmp 25), type := 4, pos := _, after := #[{ on := 7, ground := Ground.data }], guard := none }) (v := ?tz7) rfl (by kernel_rfl) (by kernel_rfl) (by kernel_rfl) (fun _ _ _ h => h) (Or.inl ⟨by rfl, ?uz7⟩) (by assumption) ?rz7
    case uz7 => (intro w hSw; (try dsimp only at hSw); go_simp; (try with_reducible rfl))
    simp only [Act.put, List.setIfInBounds_toArray, List.set_cons_zero, List.set_cons_succ]
    refine wpAnyH_take (i := 9) (oi := { dst := some 27, op := Op.load 4 (Operand.tmp 6), type := 4, pos := _, after := #[], guard := none }) (v := ?tz8) rfl (by kernel_rfl) (by kernel_rfl) (by kernel_rfl) (fun _ _ _ h => h) (Or.inl ⟨by rfl, ?uz8⟩) (by assumption) ?rz8
    case uz8 => (intro w hSw; (try dsimp only at hSw); go_simp; (try with_reducible rfl))
    simp only [Act.put, List.setIfInBounds_toArray, List.set_cons_zero, List.set_cons_succ]
    refine wpAnyH_ready (rs := [1]) (by kernel_rfl) (by simp) ?_
    refine AllReadyH.cons (o := { dst := some 19, op := Op.call { callee := Callee.value (Operand.func 23), args := #[Operand.tmp 18], argTypes := #[3] }, type := 9, pos := _, after := #[{ on := 0, ground := Ground.data }], guard := none }) rfl (fun K hK => ?_) AllReadyH.nil
    go_simp
    refine (HIT.out _ bW).mono ?_
    rintro e v1 ⟨rfl, y1⟩
    go_wp2_with fail
    refine hK.out _ _ (HC.out _ y1) (fun hH1 => ?_)
    clear hK K
    (try simp only [Act.put, List.setIfInBounds_toArray, List.set_cons_zero, List.set_cons_succ])
    refine wpAnyH_take (i := 2) (oi := { dst := some 20, op := Op.binOp BinOp.add 9 (Operand.tmp 19) (Operand.const (Value.string { data := #[32] })) 9, type := 9, pos := _, after := #[{ on := 1, ground := Ground.data }], guard := none }) (v := ?tz9) rfl (by kernel_rfl) (by kernel_rfl) (by kernel_rfl) (fun _ _ _ h => h) (Or.inl ⟨by rfl, ?uz9⟩) (by assumption) ?rz9
    case uz9 => (intro w hSw; (try dsimp only at hSw); go_simp; (try with_reducible rfl))
    simp only [Act.put, List.setIfInBounds_toArray, List.set_cons_zero, List.set_cons_succ]
    refine wpAnyH_ready (rs := [10]) (by kernel_rfl) (by simp) ?_
    refine AllReadyH.cons (o := { dst := some 28, op := Op.call { callee := Callee.value (Operand.func 24), args := #[Operand.tmp 21, Operand.tmp 26, Operand.tmp 27], argTypes := #[54, 4, 4] }, type := 9, pos := _, after := #[{ on := 3, ground := Ground.data }, { on := 8, ground := Ground.data }, { on := 9, ground := Ground.data }, { on := 1, ground := Ground.chain }], guard := none }) rfl (fun K hK => ?_) AllReadyH.nil
    go_simp
    refine (HWD.out _).mono ?_
    rintro e v2 ⟨rfl, rfl⟩
    go_wp2_with fail
    refine hK.out _ _ (HC.out _ y1) (fun hH2 => ?_)
    clear hK K
    (try simp only [Act.put, List.setIfInBounds_toArray, List.set_cons_zero, List.set_cons_succ])
    refine wpAnyH_take (i := 11) (oi := { dst := some 29, op := Op.binOp BinOp.add 9 (Operand.tmp 20) (Operand.tmp 28) 9, type := 9, pos := _, after := #[{ on := 2, ground := Ground.data }, { on := 10, ground := Ground.data }], guard := none }) (v := ?tz10) rfl (by kernel_rfl) (by kernel_rfl) (by kernel_rfl) (fun _ _ _ h => h) (Or.inl ⟨by rfl, ?uz10⟩) (by assumption) ?rz10
    case uz10 => (intro w hSw; (try dsimp only at hSw); go_simp; (try with_reducible rfl))
    simp only [Act.put, List.setIfInBounds_toArray, List.set_cons_zero, List.set_cons_succ]
    refine wpAnyH_take (i := 12) (oi := { dst := some 30, op := Op.binOp BinOp.add 9 (Operand.tmp 29) (Operand.const (Value.string { data := #[10] })) 9, type := 9, pos := _, after := #[{ on := 11, ground := Ground.data }], guard := none }) (v := ?tz11) rfl (by kernel_rfl) (by kernel_rfl) (by kernel_rfl) (fun _ _ _ h => h) (Or.inl ⟨by rfl, ?uz11⟩) (by assumption) ?rz11
    case uz11 => (intro w hSw; (try dsimp only at hSw); go_simp; (try with_reducible rfl))
    simp only [Act.put, List.setIfInBounds_toArray, List.set_cons_zero, List.set_cons_succ]
    refine wpAnyH_ready (rs := [13]) (by kernel_rfl) (by simp) ?_
    refine AllReadyH.cons (o := { dst := some 31, op := Op.call { callee := Callee.value (Operand.func 22), args := #[Operand.tmp 5, Operand.tmp 30], argTypes := #[61, 9] }, type := 64, pos := _, after := #[{ on := 12, ground := Ground.data }, { on := 10, ground := Ground.chain }], guard := none }) rfl (fun K hK => ?_) AllReadyH.nil
    go_simp
    refine (HWS.out _ _ y1 (by omega)).mono ?_
    rintro e v3 ⟨rfl, x1, x2, x3, x4⟩
    go_wp2_with fail
    refine hK.out _ _ ⟨x1.l.c 0, (x2.cell (p := ⟨b, _, none⟩) (Nat.lt_of_lt_of_le hbN (Nat.le_refl _))).trans C5.out, x1.e.c 0⟩ (fun hH3 => ?_)
    clear hK K
    (try simp only [Act.put, List.setIfInBounds_toArray, List.set_cons_zero, List.set_cons_succ])
    refine wpAnyH_done (by kernel_rfl) ?_ _
    show Exit.inBlock 1 _ Exit.normal _ _
    gi_wp2
    refine ⟨rfl, ⟨_, HNE.out.symm, ?_, x1⟩, x2, x3, x4⟩
    rw [ByteArray.size_append]
    omega
  case done =>
    rintro W ⟨S, hS, hSz, hF⟩ hD
    have HD := Lib.hid hD
    have HFX := Lib.hid hF
    have hsz := hF.sz
    have HST := Lib.hid (Tryz.Builder_String_any_k _ _ S.data.toList W hF.b (by omega))
    have HSE := Lib.hid hS
    clear hF hS hD H6 E6 bl bm bu hu b6 b4 b5 B6 A1' A2' A3' A5 HK HT HS HP
    gi_wp2
    refine ⟨trivial, (callsIn_wide.2 HST.out).mono ?_⟩
    rintro e7 w7 ⟨rfl, -, b7, k7⟩
    have hd7 : w7.heap[w6.heap.size]? = some (.deferred (some [])) := k7 _ _ HD.out (by simp; omega) (fun c fz e => by cases e)
    have hw7 := b7.size
    have FIN : Hid (Below w.heap.size w (w7.putObj w6.heap.size (.deferred none))) := Lib.hid ((HFX.out.below.trans (b7.mono (by omega))).trans (below_put _ _ _ _ (by omega) (Array.getElem?_eq_some_iff.1 hd7).1))
    clear HST HFX k7
    gi_wp2
    refine ⟨by simp, .inl ⟨_, _, rfl, run_takeDeferred hd7, ?_⟩⟩
    refine ⟨.string S, ?_, by rw [HSE.out], FIN.out⟩
    simp [results, Tryz.results14, go_sem]
end Go.Proofs.YtkgbpildikjoiaaGreatDoor
namespace Go.Proofs.YtkgbpildikjoiaaGreatDoor
theorem kf : KFind 800 := find_any
theorem kf4 : KFind 400 := fun L ad cap m w h hl => find_any L ad cap m w h (Nat.le_trans hl (by decide))
theorem kh : KHan := handlers_any
theorem ke : KExp := explain_any
end Go.Proofs.YtkgbpildikjoiaaGreatDoor
