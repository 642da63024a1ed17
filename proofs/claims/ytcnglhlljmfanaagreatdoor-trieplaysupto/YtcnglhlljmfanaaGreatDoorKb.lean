/- The ground of the walks over a tree of subscriptions: what its nodes and maps are in memory, told path by path; what stays of it where other blocks are written; no condition but those that each theorem names. -/
import Derived.Test.YtcnglhlljmfanaaGreatDoorTb
import Derived.Test.YtcnglhlljmfanaaGreatDoorKa
import Derived.Maps.RangeWalk
import Derived.Maps.OwnIn
namespace Go.Proofs.YtcnglhlljmfanaaGreatDoor
open Go.RowKit Tp Go.Maps

/-- A pointer to a node, or none. -/
def pt : Option Nat → Value
  | none => .pointer none
  | some a => .pointer (some ⟨a, 0, none⟩)

/-- An element that reads as itself. -/
def heldElem (v : Value) : Option (DataW Value × List MemPlace) := some (.held v, [])

theorem strK : Keyed Tryz.prog 9 := string_keyed Tryz.underlying9
theorem intK : Keyed Tryz.prog 3 := int_keyed Tryz.underlying3

/-- A set of numbers in memory. -/
def SetAt (w : World) (x : Option Nat) (s : Int → Bool) (K : Nat) : Prop := match x with
  | none => ∀ i, s i = false
  | some b => ∃ n D, w.ownsMap (H := Value) Tryz.prog 3 unitElem b n D ∧ n ≤ K ∧ ∀ i, Maps.has D (.int .i64 i) = s i

/-- A map of levels to nodes in memory. -/
def KidsAt (w : World) (y : Option Nat) (f : Bs → Option Nat) (K : Nat) : Prop := match y with
  | none => ∀ l, f l = none
  | some b => ∃ n D, w.ownsMap (H := Value) Tryz.prog 9 heldElem b n D ∧ n ≤ K ∧ ∀ l, Maps.has D (.string l) = (f l).isSome ∧ D.atKey (.string l) (.held (.pointer none)) = .held (pt (f l))

structure Nd where
  a : Nat
  x : Option Nat
  y : Option Nat

/-- The tree in memory: 'nd' names each path's node, 'own' whose each block is, 'S' the numbers; K bounds each map. -/
structure G (w : World) (nd : Pth → Option Nd) (own : Nat → Option (Pth × Nat)) (S : Pth → Int → Bool) (K : Nat) : Prop where
  cell : ∀ p n, nd p = some n → w.heap[n.a]? = some (.cells #[.map n.x, .map n.y] 39 (0, 0))
  oa : ∀ p n, nd p = some n → own n.a = some (p, 0)
  ox : ∀ p n b, nd p = some n → n.x = some b → own b = some (p, 1)
  oy : ∀ p n b, nd p = some n → n.y = some b → own b = some (p, 2)
  num : ∀ p n, nd p = some n → SetAt w n.x (S p) K
  bel : ∀ p n, nd p = some n → KidsAt w n.y (fun l => (nd (p ++ [l])).map Nd.a) K
  lt : ∀ b, own b ≠ none → b < w.heap.size
  up : ∀ p l, nd (p ++ [l]) ≠ none → nd p ≠ none
  non : ∀ p i, nd p = none → S p i = false

/-- Nothing but these blocks, and new ones, has turned. -/
structure But (C : Nat → Prop) (w w' : World) : Prop where
  os : w'.os = w.os
  tape : w'.tape = w.tape
  output : w'.output = w.output
  size : w.heap.size ≤ w'.heap.size
  block : ∀ k, k < w.heap.size → ¬ C k → w'.heap[k]? = w.heap[k]?

theorem But.refl (C : Nat → Prop) (w : World) : But C w w := ⟨rfl, rfl, rfl, Nat.le_refl _, fun _ _ _ => rfl⟩
theorem But.of_below {C : Nat → Prop} {w w' : World} (h : Below w.heap.size w w') : But C w w' := ⟨h.os, h.tape, h.output, h.size, fun k hk _ => h.block k hk⟩
theorem But.below {w w' : World} (h : But (fun _ => False) w w') : Below w.heap.size w w' := ⟨h.os, h.tape, h.output, h.size, fun k hk => h.block k hk (fun h => h)⟩
theorem But.trans {C C' : Nat → Prop} {w w' w'' : World} (h : But C w w') (h' : But C' w' w'') (hC : ∀ k, k < w.heap.size → C' k → C k) : But C w w'' :=
  ⟨h'.os.trans h.os, h'.tape.trans h.tape, h'.output.trans h.output, Nat.le_trans h.size h'.size,
    fun k hk hn => (h'.block k (Nat.lt_of_lt_of_le hk h.size) (fun c => hn (hC k hk c))).trans (h.block k hk hn)⟩
theorem But.mono {C C' : Nat → Prop} {w w' : World} (h : But C w w') (hC : ∀ k, k < w.heap.size → C k → C' k) : But C' w w' :=
  ⟨h.os, h.tape, h.output, h.size, fun k hk hn => h.block k hk (fun c => hn (hC k hk c))⟩
theorem But.grown {C : Nat → Prop} {w w' : World} {row : Option Nat} (h : w.grownBy w' row) (hC : ∀ k, row = some k → k < w.heap.size → C k) : But C w w' :=
  ⟨h.os, h.tape, h.output, h.size, fun k hk hn => h.block k hk (fun e => hn (hC k e.symm hk))⟩
theorem But.alloc {C : Nat → Prop} (w : World) (o : Obj) : But C w (w.alloc o) := But.grown (World.grownBy_alloc w o none) (fun k e => by cases e)
theorem But.at {C : Nat → Prop} {w w' : World} (h : But C w w') {k : Nat} {o : Obj} (hk : w.heap[k]? = some o) (hn : ¬ C k) : w'.heap[k]? = some o :=
  (h.block k (Array.getElem?_eq_some_iff.1 hk).1 hn).trans hk
theorem But.map {C : Nat → Prop} {w w' : World} (h : But C w w') {k : TypeId} {R : Value → Option (DataW Value × List MemPlace)} {b n : Nat} {D : DataW Value} (ho : w.ownsMap Tryz.prog k R b n D) (hn : ¬ C b) : w'.ownsMap Tryz.prog k R b n D := by
  obtain ⟨es, clock, hb, r⟩ := ho
  exact ⟨es, clock, h.at hb hn, r⟩

theorem SetAt.but {C : Nat → Prop} {w w' : World} {x : Option Nat} {s : Int → Bool} {K : Nat} (h : SetAt w x s K) (hB : But C w w') (hn : ∀ b, x = some b → ¬ C b) : SetAt w' x s K := by
  cases x with
  | none => exact h
  | some b => obtain ⟨n, D, h1, h2⟩ := h; exact ⟨n, D, hB.map h1 (hn b rfl), h2⟩
theorem KidsAt.but {C : Nat → Prop} {w w' : World} {x : Option Nat} {f : Bs → Option Nat} {K : Nat} (h : KidsAt w x f K) (hB : But C w w') (hn : ∀ b, x = some b → ¬ C b) : KidsAt w' x f K := by
  cases x with
  | none => exact h
  | some b => obtain ⟨n, D, h1, h2⟩ := h; exact ⟨n, D, hB.map h1 (hn b rfl), h2⟩
theorem SetAt.mono {w : World} {x : Option Nat} {s : Int → Bool} {K K' : Nat} (h : SetAt w x s K) (hK : K ≤ K') : SetAt w x s K' := by
  cases x with
  | none => exact h
  | some b => obtain ⟨n, D, h1, h2, h3⟩ := h; exact ⟨n, D, h1, Nat.le_trans h2 hK, h3⟩
theorem KidsAt.mono {w : World} {x : Option Nat} {f : Bs → Option Nat} {K K' : Nat} (h : KidsAt w x f K) (hK : K ≤ K') : KidsAt w x f K' := by
  cases x with
  | none => exact h
  | some b => obtain ⟨n, D, h1, h2, h3⟩ := h; exact ⟨n, D, h1, Nat.le_trans h2 hK, h3⟩

theorem G.mono {w : World} {nd : Pth → Option Nd} {own : Nat → Option (Pth × Nat)} {S : Pth → Int → Bool} {K K' : Nat} (h : G w nd own S K) (hK : K ≤ K') : G w nd own S K' :=
  { h with num := fun p n hp => (h.num p n hp).mono hK, bel := fun p n hp => (h.bel p n hp).mono hK }
/-- The tree stays what it is while none of its blocks is written. -/
theorem G.but {w w' : World} {nd : Pth → Option Nd} {own : Nat → Option (Pth × Nat)} {S : Pth → Int → Bool} {K : Nat} (h : G w nd own S K) {C : Nat → Prop} (hB : But C w w') (hC : ∀ k, C k → own k = none) : G w' nd own S K where
  cell p n hp := hB.at (h.cell p n hp) (fun c => by have := hC _ c; rw [h.oa p n hp] at this; cases this)
  oa := h.oa
  ox := h.ox
  oy := h.oy
  num p n hp := (h.num p n hp).but hB (fun b e c => by have := hC _ c; rw [h.ox p n b hp e] at this; cases this)
  bel p n hp := (h.bel p n hp).but hB (fun b e c => by have := hC _ c; rw [h.oy p n b hp e] at this; cases this)
  lt b hb := Nat.lt_of_lt_of_le (h.lt b hb) hB.size
  up := h.up
  non := h.non
theorem G.below {w w' : World} {nd : Pth → Option Nd} {own : Nat → Option (Pth × Nat)} {S : Pth → Int → Bool} {K : Nat} (h : G w nd own S K) (hB : Below w.heap.size w w') : G w' nd own S K :=
  h.but (But.of_below (C := fun _ => False) hB) (fun _ c => c.elim)

/-- What a look into the map of levels gives. -/
theorem KidsAt.look {w : World} {y : Option Nat} {f : Bs → Option Nat} {K : Nat} (h : KidsAt w y f K) (l : ByteArray) (hl : l.size ≤ maxLen) :
    (Instr.lookup 37 (.map y) (.string l) false).run Tryz.prog w = .ok (pt (f (tl l))) w := by
  have hk : keyOf Tryz.prog 9 (.string l) = some (.string (tl l)) := by rw [tl_data]; exact WideMaps.keyOf_string_mk Tryz.underlying9 hl
  cases y with
  | none =>
    rw [look_nil false strK Tryz.underlying37 (Tryz.zeroValue35 w) hk]
    rw [h (tl l)]; rfl
  | some b =>
    obtain ⟨n, D, h1, _, h2⟩ := h
    obtain ⟨v, ps, hr, hv⟩ := h1.lookup strK Tryz.underlying37 (Tryz.zeroValue35 w) (zd := .held (.pointer none)) (zp := []) rfl hk
    rw [hr]
    rw [(h2 (tl l)).2] at hv
    simp only [heldElem, Option.some.injEq, Prod.mk.injEq, DataW.held.injEq] at hv
    rw [hv.1]
/-- What a look into the set of numbers gives. -/
theorem SetAt.look {w : World} {x : Option Nat} {s : Int → Bool} {K : Nat} (h : SetAt w x s K) (i : Int) (hi : (Lit.int .i64 i).wf = true) :
    (Instr.lookup 36 (.map x) (.int .i64 i) true).run Tryz.prog w = .ok (.tuple #[.agg #[], .bool (s i)]) w := by
  have hk : keyOf Tryz.prog 3 (.int .i64 i) = some (.int .i64 i) := Maps.keyOf_int_mk Tryz.underlying3 hi
  cases x with
  | none =>
    rw [look_nil true intK Tryz.underlying36 (Tryz.zeroValue68 w) hk]
    rw [h i]; rfl
  | some b =>
    obtain ⟨n, D, h1, _, h2⟩ := h
    obtain ⟨v, ps, hr, hv⟩ := h1.look_ok intK Tryz.underlying36 (Tryz.zeroValue68 w) (zd := .agg []) (zp := []) unitElem_mk hk
    rw [hr, h2 i]
    obtain ⟨rfl, _⟩ := unitElem_inv hv
    rfl
end Go.Proofs.YtcnglhlljmfanaaGreatDoor
