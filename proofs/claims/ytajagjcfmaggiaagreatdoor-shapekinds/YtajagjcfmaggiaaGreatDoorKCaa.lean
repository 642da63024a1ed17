/- Plain trees of a pattern's parts, and plain functions on them: the document's count of parts, the package's walk that counts down, of which kinds a pattern holds, as a question and as bits: they say the same. No program, no condition but those that each theorem names. -/
import Derived.Laws.BitsAllLaws
import Derived.Test.YtajagjcfmaggiaaGreatDoorRows
import Derived.WalkKit
import Derived.WalkSpells
import Derived.WalkLawsBesides
import Derived.Deep.QuietTactic
import Derived.BigQuiet
import Derived.Stop.Asserts
import Derived.Deep.RegionHeld3
import Derived.Lib.Hide
import Derived.Lib.ConvBytes
import Derived.Lib.AtoiErrMem
import Derived.Laws.IdiomStrings
import Derived.Defers
import Derived.Recover
namespace Go.Proofs.YtajagjcfmaggiaaGreatDoor

/-- Patterns of depth n at most. -/
def Wt : Nat → Type
  | 0 => Empty
  | n + 1 => Int × Int × List (Wt n)

def Wt.op {n : Nat} (t : Wt (n + 1)) : Int := (show Int × Int × List (Wt n) from t).1
def Wt.nm {n : Nat} (t : Wt (n + 1)) : Int := (show Int × Int × List (Wt n) from t).2.1
def Wt.ks {n : Nat} (t : Wt (n + 1)) : List (Wt n) := (show Int × Int × List (Wt n) from t).2.2

/-- One part by itself. -/
def okW (o m : Int) (len : Nat) : Bool :=
  if o = 1 then decide (m = 0 ∧ len = 0)
  else if o = 2 then decide (0 ≤ m ∧ m < 14 ∧ len = 0)
  else if o = 3 then decide (0 ≤ m ∧ m < 10 ∧ len = 0)
  else if o = 4 ∨ o = 5 then decide (m = 0 ∧ 2 ≤ len)
  else if o = 6 then decide (m = 0 ∧ len = 1)
  else false
def Wt.ok {n : Nat} (t : Wt (n + 1)) : Bool := okW t.op t.nm t.ks.length

/-- The package's walk that counts down. -/
def vwL {T : Type} (c : T → Int → Bool × Int) : List T → Int → Bool × Int
  | [], l => (true, l)
  | t :: ts, l => if (c t l).1 = true then vwL c ts (c t l).2 else (false, (c t l).2)
def vw : Nat → (n : Nat) → Wt n → Int → Bool × Int
  | 0, _, _, left => (false, left)
  | _ + 1, 0, t, _ => t.elim
  | f + 1, n + 1, t, left => if left = 0 ∨ t.ok = false then (false, left) else vwL (fun t l => vw f n t l) t.ks (left - 1)

theorem vwL_cons {T : Type} (c : T → Int → Bool × Int) (t : T) (ts : List T) (l : Int) : vwL c (t :: ts) l = if (c t l).1 = true then vwL c ts (c t l).2 else (false, (c t l).2) := rfl
theorem drop_atW {T : Type} (l : List T) (j : Nat) (h : j < l.length) : l.drop j = l[j] :: l.drop (j + 1) := List.drop_eq_getElem_cons h

/-- The document's table of methods: has kind k the method m. -/
def refHas (k m : Int) : Bool :=
  if m = 0 then k == 4 || k == 5 || k == 7 || k == 8 || k == 9 || k == 11 || k == 12
  else if m = 1 then k == 5 || k == 2 || k == 10
  else if m = 2 then k == 10 || k == 11 || k == 12
  else if m = 3 then k == 11 || k == 12
  else if m = 4 then k == 1 || k == 2 || k == 3 || k == 4 || k == 5
  else if m = 5 then k == 1 || k == 3
  else false

/-- An interface's methods. -/
def mths (f : Int) : List Int :=
  if f = 0 then [0] else if f = 1 then [1] else if f = 2 then [2] else if f = 3 then [3] else if f = 4 then [4] else if f = 5 then [5]
  else if f = 6 then [0, 1] else if f = 7 then [0, 4] else if f = 8 then [4, 5] else if f = 9 then [0, 1, 4] else []
/-- The first method that is lacking. -/
def lackL (k : Int) : List Int → Int
  | [] => -1
  | m :: l => if refHas k m = true then lackL k l else m
def lacks (k f : Int) : Int := if k < 0 ∨ 14 ≤ k then -1 else lackL k (mths f)
def impl (k f : Int) : Bool := decide (0 < k) && decide (k < 14) && decide (0 < (mths f).length) && (lacks k f == -1)

end Go.Proofs.YtajagjcfmaggiaaGreatDoor
/- The ground over this seat's program: what an assertion answers, which interface values stand for a kind; no condition but those that each theorem names. -/
namespace Go.Proofs.YtajagjcfmaggiaaGreatDoor
open Go.RowKit

/-- An assertion to a type that is no interface. -/
theorem assert_to {P : Program} {t x asserted : TypeId} {d : TypeDesc} {v z : Value} {w : World}
    (hU : P.underlying asserted = some d) (hd : ∀ m, d ≠ .interface m) (hz : (zeroValue asserted).run P w = .ok z w) :
    (Instr.typeAssert (.iface t v) x asserted true).run P w = .ok (.tuple #[if t = asserted then v else z, .bool (decide (t = asserted))]) w := by
  cases d with
  | interface m => exact absurd rfl (hd m)
  | _ => by_cases h : t = asserted <;> simp [Instr.typeAssert, run_underlying hU, hz, h]

theorem assert_nil {P : Program} {x asserted : TypeId} {d : TypeDesc} {z : Value} {w : World}
    (hU : P.underlying asserted = some d) (hz : (zeroValue asserted).run P w = .ok z w) :
    (Instr.typeAssert .nilIface x asserted true).run P w = .ok (.tuple #[z, .bool false]) w := by
  cases d <;> simp [Instr.typeAssert, run_underlying hU, hz]

/-- The type of a kind. -/
def tyk (k : Int) : Nat :=
  if k = 1 then 140 else if k = 2 then 141 else if k = 3 then 142 else if k = 4 then 101 else if k = 5 then 143 else if k = 6 then 144 else if k = 7 then 147
  else if k = 8 then 149 else if k = 9 then 152 else if k = 10 then 154 else if k = 11 then 155 else if k = 12 then 155 else 157

/-- An interface value of some type, or nil. -/
def Sx (v : Value) : Prop := v = .nilIface ∨ ∃ T z, v = .iface T z

/-- An interface value of kind k: its type, and its shape where it is a struct or a pointer. -/
def Kd (k : Int) (u : Value) : Prop :=
  ((k < 1 ∨ 13 < k) ∧ u = .nilIface) ∨ (1 ≤ k ∧ k ≤ 13 ∧ ∃ v, u = .iface (tyk k) v ∧ (k = 9 → ∃ a b, v = .agg #[a, b] ∧ Sx a ∧ Sx b) ∧ (k = 10 → ∃ c s, v = .agg #[.int .i64 c, .string s]) ∧ (k = 11 → ∃ a, v = .pointer (some a)) ∧ (k = 12 → v = .pointer none) ∧ (k = 13 → v = .agg #[]))

theorem Kd.plain (k : Int) (v : Value) (h1 : 1 ≤ k) (h2 : k ≤ 8) : Kd k (.iface (tyk k) v) := .inr ⟨h1, by omega, v, rfl, fun h => by omega, fun h => by omega, fun h => by omega, fun h => by omega, fun h => by omega⟩
theorem Kd.pair (a b : Value) (ha : Sx a) (hb : Sx b) : Kd 9 (.iface 152 (.agg #[a, b])) := .inr ⟨by decide, by decide, _, rfl, fun _ => ⟨a, b, rfl, ha, hb⟩, fun h => by omega, fun h => by omega, fun h => by omega, fun h => by omega⟩
theorem Kd.fail (c : Int) (s : ByteArray) : Kd 10 (.iface 154 (.agg #[.int .i64 c, .string s])) := .inr ⟨by decide, by decide, _, rfl, fun h => by omega, fun _ => ⟨c, s, rfl⟩, fun h => by omega, fun h => by omega, fun h => by omega⟩
theorem Kd.ptr (a : Addr) : Kd 11 (.iface 155 (.pointer (some a))) := .inr ⟨by decide, by decide, _, rfl, fun h => by omega, fun h => by omega, fun _ => ⟨a, rfl⟩, fun h => by omega, fun h => by omega⟩
theorem Kd.nilp : Kd 12 (.iface 155 (.pointer none)) := .inr ⟨by decide, by decide, _, rfl, fun h => by omega, fun h => by omega, fun h => by omega, fun _ => rfl, fun h => by omega⟩
theorem Kd.unit : Kd 13 (.iface 157 (.agg #[])) := .inr ⟨by decide, by decide, _, rfl, fun h => by omega, fun h => by omega, fun h => by omega, fun h => by omega, fun _ => rfl⟩

theorem Kd.cases {k : Int} {u : Value} (h : Kd k u) :
    ((k < 1 ∨ 13 < k) ∧ u = .nilIface) ∨ (k = 1 ∧ ∃ v, u = .iface 140 v) ∨ (k = 2 ∧ ∃ v, u = .iface 141 v) ∨ (k = 3 ∧ ∃ v, u = .iface 142 v) ∨ (k = 4 ∧ ∃ v, u = .iface 101 v) ∨ (k = 5 ∧ ∃ v, u = .iface 143 v) ∨ (k = 6 ∧ ∃ v, u = .iface 144 v) ∨ (k = 7 ∧ ∃ v, u = .iface 147 v)
    ∨ (k = 8 ∧ ∃ v, u = .iface 149 v) ∨ (k = 9 ∧ ∃ a b, u = .iface 152 (.agg #[a, b]) ∧ Sx a ∧ Sx b) ∨ (k = 10 ∧ ∃ c s, u = .iface 154 (.agg #[.int .i64 c, .string s])) ∨ (k = 11 ∧ ∃ a, u = .iface 155 (.pointer (some a))) ∨ (k = 12 ∧ u = .iface 155 (.pointer none)) ∨ (k = 13 ∧ u = .iface 157 (.agg #[])) := by
  rcases h with h | ⟨h1, h2, v, hu, h9, h10, h11, h12, h13⟩
  · exact .inl h
  · right
    have : k = 1 ∨ k = 2 ∨ k = 3 ∨ k = 4 ∨ k = 5 ∨ k = 6 ∨ k = 7 ∨ k = 8 ∨ k = 9 ∨ k = 10 ∨ k = 11 ∨ k = 12 ∨ k = 13 := by omega
    rcases this with rfl | rfl | rfl | rfl | rfl | rfl | rfl | rfl | rfl | rfl | rfl | rfl | rfl
    · exact .inl ⟨rfl, v, hu⟩
    · exact .inr (.inl ⟨rfl, v, hu⟩)
    · exact .inr (.inr (.inl ⟨rfl, v, hu⟩))
    · exact .inr (.inr (.inr (.inl ⟨rfl, v, hu⟩)))
    · exact .inr (.inr (.inr (.inr (.inl ⟨rfl, v, hu⟩))))
    · exact .inr (.inr (.inr (.inr (.inr (.inl ⟨rfl, v, hu⟩)))))
    · exact .inr (.inr (.inr (.inr (.inr (.inr (.inl ⟨rfl, v, hu⟩))))))
    · exact .inr (.inr (.inr (.inr (.inr (.inr (.inr (.inl ⟨rfl, v, hu⟩)))))))
    · obtain ⟨a, b, rfl, ha, hb⟩ := h9 rfl
      exact .inr (.inr (.inr (.inr (.inr (.inr (.inr (.inr (.inl ⟨rfl, a, b, hu, ha, hb⟩))))))))
    · obtain ⟨c, s, rfl⟩ := h10 rfl
      exact .inr (.inr (.inr (.inr (.inr (.inr (.inr (.inr (.inr (.inl ⟨rfl, c, s, hu⟩)))))))))
    · obtain ⟨a, rfl⟩ := h11 rfl
      exact .inr (.inr (.inr (.inr (.inr (.inr (.inr (.inr (.inr (.inr (.inl ⟨rfl, a, hu⟩))))))))))
    · obtain rfl := h12 rfl
      exact .inr (.inr (.inr (.inr (.inr (.inr (.inr (.inr (.inr (.inr (.inr (.inl ⟨rfl, hu⟩)))))))))))
    · obtain rfl := h13 rfl
      exact .inr (.inr (.inr (.inr (.inr (.inr (.inr (.inr (.inr (.inr (.inr (.inr ⟨rfl, hu⟩)))))))))))
theorem ret_b {a b : Bool} (h : a = b) : Ending.returned (.bool a) = .returned (.bool b) := by rw [h]
theorem below1 (w : World) (o : Obj) : Below w.heap.size w (w.alloc o) := (Below.refl _ w).alloc (Nat.le_refl _) _
theorem below2 (w : World) (o p : Obj) : Below w.heap.size w ((w.alloc o).alloc p) := ((Below.refl _ w).alloc (Nat.le_refl _) _).alloc (by simp) _
end Go.Proofs.YtajagjcfmaggiaaGreatDoor
/- What stays of old blocks, and a block of one number; no condition but those that each theorem names. -/
namespace Go.Proofs.YtajagjcfmaggiaaGreatDoor
open Go.RowKit

theorem grown_trans {a w w' : World} {row : Option Nat} (h : a.grownBy w row) (k : w.grownBy w' row) : a.grownBy w' row :=
  ⟨k.os.trans h.os, k.tape.trans h.tape, k.output.trans h.output, Nat.le_trans h.size k.size, fun i hi hn => (k.block i (Nat.lt_of_lt_of_le hi h.size) hn).trans (h.block i hi hn)⟩
theorem grown_set (w : World) (b o : Nat) (v : Value) : w.grownBy (w.setCell ⟨b, o, none⟩ v) (some b) :=
  ⟨rfl, rfl, rfl, by simp [World.setCell], fun k _ hn => by simp only [World.setCell, Array.getElem?_modify]; rw [if_neg (fun e => hn (by rw [e]))]⟩
theorem grown_below {w w' : World} {row : Option Nat} (h : Below w.heap.size w w') : w.grownBy w' row :=
  ⟨h.os, h.tape, h.output, h.size, fun k hk _ => h.block k hk⟩
def Lf (w : World) (l : Nat) (k : Int) : Prop := w.heap[l]? = some (.cells #[.int .i64 k] 3 (0, 0))
theorem Lf.c {w : World} {l : Nat} {k : Int} (h : Lf w l k) : w.cell? ⟨l, 0, none⟩ = some (.int .i64 k) := by unfold Lf at h; simp [World.cell?, h]
theorem Lf.f {w : World} {l : Nat} {k : Int} (h : Lf w l k) : w.frozen? ⟨l, 0, none⟩ = false := by unfold Lf at h; simp [World.frozen?, h]
theorem Lf.lt {w : World} {l : Nat} {k : Int} (h : Lf w l k) : l < w.heap.size := by unfold Lf at h; exact (Array.getElem?_eq_some_iff.1 h).1
theorem Lf.below {w w' : World} {l : Nat} {k : Int} (h : Lf w l k) (hb : Below w.heap.size w w') : Lf w' l k := by
  have := h.lt
  unfold Lf at h ⊢; rw [hb.block l this]; exact h
theorem Lf.set {w : World} {l : Nat} {k : Int} (h : Lf w l k) (k' : Int) : Lf (w.setCell ⟨l, 0, none⟩ (.int .i64 k')) l k' := by
  unfold Lf at h ⊢
  simp [World.setCell, Array.getElem?_modify, h]
end Go.Proofs.YtajagjcfmaggiaaGreatDoor
/- Copies of data without parts, and of a state by the contracts of its two copies; no condition but those that each theorem names. -/
namespace Go.Proofs.YtajagjcfmaggiaaGreatDoor
open Go.RowKit

theorem copyAll_none (ad : Option Addr) (cap : Nat) (w : World) : Calls Tryz.prog 67 #[.slice ad 0 cap] w fun e w' => e = .returned (.slice none 0 0) ∧ Below w.heap.size w w' := by
  go_enter Tryz.func67, Tryz.ntmps67
  go_wp2
  go_ret
  exact ⟨rfl, Below.refl _ _⟩

/-- A block of cells. -/
def Bk (w : World) (N : Nat) (cs : Array Value) (T : TypeId) : Prop := w.heap[N]? = some (.cells cs T (0, 0))
theorem Bk.new (w : World) (cs : Array Value) (T : TypeId) : Bk (w.alloc (.cells cs T)) w.heap.size cs T := heap_alloc_new w _
theorem Bk.lt {w : World} {N : Nat} {cs : Array Value} {T : TypeId} (h : Bk w N cs T) : N < w.heap.size := (Array.getElem?_eq_some_iff.1 h).1
theorem Bk.step {w w' : World} {N : Nat} {cs : Array Value} {T : TypeId} (h : Bk w N cs T) (hb : Below w.heap.size w w') : Bk w' N cs T := (hb.block N h.lt).trans h
theorem Bk.c {w : World} {N : Nat} {cs : Array Value} {T : TypeId} (h : Bk w N cs T) (o : Nat) : w.cell? ⟨N, o, none⟩ = cs[o]? := by
  unfold Bk at h
  simp [World.cell?, h]
theorem Bk.f {w : World} {N : Nat} {cs : Array Value} {T : TypeId} (h : Bk w N cs T) (o : Nat) : w.frozen? ⟨N, o, none⟩ = false := by
  unfold Bk at h
  simp [World.frozen?, h]
theorem Bk.set {w : World} {N : Nat} {cs : Array Value} {T : TypeId} (h : Bk w N cs T) (o : Nat) (v : Value) : Bk (w.setCell ⟨N, o, none⟩ v) N (cs.setIfInBounds o v) T := by
  unfold Bk at h ⊢
  simp [World.setCell, Array.getElem?_modify, h]
theorem Bk.alloc {w : World} {N : Nat} {cs : Array Value} {T : TypeId} (h : Bk w N cs T) (o : Obj) : Bk (w.alloc o) N cs T := h.step (below1 w o)
theorem Bk.new2 (w : World) (o : Obj) (cs : Array Value) (T : TypeId) : Bk ((w.alloc o).alloc (.cells cs T)) (w.heap.size + 1) cs T := by have := Bk.new (w.alloc o) cs T; rwa [World.size_alloc] at this

/-- Five cells. -/
theorem Bk.c5 {w : World} {N : Nat} {v0 v1 v2 v3 v4 : Value} {T : TypeId} (h : Bk w N #[v0, v1, v2, v3, v4] T) : w.cell? ⟨N, 0, none⟩ = some v0 ∧ w.cell? ⟨N, 1, none⟩ = some v1 ∧ w.cell? ⟨N, 2, none⟩ = some v2 ∧ w.cell? ⟨N, 3, none⟩ = some v3 ∧ w.cell? ⟨N, 4, none⟩ = some v4 := ⟨h.c 0, h.c 1, h.c 2, h.c 3, h.c 4⟩
theorem Bk.c10 {w : World} {N : Nat} {v0 v1 v2 v3 v4 v5 v6 v7 v8 v9 : Value} {T : TypeId} (h : Bk w N #[v0, v1, v2, v3, v4, v5, v6, v7, v8, v9] T) : w.cell? ⟨N, 0, none⟩ = some v0 ∧ w.cell? ⟨N, 1, none⟩ = some v1 ∧ w.cell? ⟨N, 2, none⟩ = some v2 ∧ w.cell? ⟨N, 3, none⟩ = some v3 ∧ w.cell? ⟨N, 4, none⟩ = some v4 ∧ w.cell? ⟨N, 5, none⟩ = some v5 ∧ w.cell? ⟨N, 6, none⟩ = some v6 ∧ w.cell? ⟨N, 7, none⟩ = some v7 ∧ w.cell? ⟨N, 8, none⟩ = some v8 ∧ w.cell? ⟨N, 9, none⟩ = some v9 := ⟨h.c 0, h.c 1, h.c 2, h.c 3, h.c 4, h.c 5, h.c 6, h.c 7, h.c 8, h.c 9⟩

/-- Copy, by what becomes of its list. -/
theorem copy_by (k i u : Int) (s : ByteArray) (ad : Option Addr) (len cap : Nat) (w : World) (R : Option Addr → Nat → Nat → World → Prop) (hR : ∀ a n c w' w'', R a n c w' → w''.heap.size = w'.heap.size → (∀ g, w.heap.size + 2 ≤ g → w''.heap[g]? = w'.heap[g]?) → R a n c w'')
    (hA : ∀ wx, Below w.heap.size w wx → w.heap.size + 2 ≤ wx.heap.size → Calls Tryz.prog 67 #[.slice ad len cap] wx fun e w' => ∃ a n c, e = .returned (.slice a n c) ∧ R a n c w' ∧ Below wx.heap.size wx w') :
    Calls Tryz.prog 36 #[.agg #[.int .i64 k, .int .i64 i, .int .u64 u, .string s, .slice ad len cap]] w fun e w' => ∃ a n c, e = .returned (.agg #[.int .i64 k, .int .i64 i, .int .u64 u, .string s, .slice a n c]) ∧ Hid (R a n c w') ∧ Below w.heap.size w w' := by
  have HA := Lib.hid hA
  clear hA
  have D0 : Bk ((w.alloc (.cells #[.int .i64 k, .int .i64 i, .int .u64 u, .string s, .slice ad len cap] 25)).alloc (.cells #[.int .i64 0, .int .i64 0, .int .u64 0, .string ⟨#[]⟩, .slice none 0 0] 25)) w.heap.size #[.int .i64 k, .int .i64 i, .int .u64 u, .string s, .slice ad len cap] 25 := (Bk.new w _ _).alloc _
  have E0 := Bk.new2 w (.cells #[.int .i64 k, .int .i64 i, .int .u64 u, .string s, .slice ad len cap] 25) #[.int .i64 0, .int .i64 0, .int .u64 0, .string ⟨#[]⟩, .slice none 0 0] 25
  have B0 := below2 w (.cells #[.int .i64 k, .int .i64 i, .int .u64 u, .string s, .slice ad len cap] 25) (.cells #[.int .i64 0, .int .i64 0, .int .u64 0, .string ⟨#[]⟩, .slice none 0 0] 25)
  go_enter Tryz.func36, Tryz.ntmps36
  go_wp2_with fail
  refine (HA.out _ B0 (by simp)).mono ?_
  rintro e w1 ⟨a, n, c, rfl, r1, b1⟩
  have D1 := D0.step b1
  have E1 := E0.step b1
  have B1 := B0.trans (b1.mono B0.size)
  have hs1 := b1.size
  simp only [World.size_alloc] at hs1
  have R1 := Lib.hid r1
  clear D0 E0 r1 HA b1 B0
  obtain ⟨c0, c1, c2, c3, c4⟩ := D1.c5
  obtain ⟨z0, z1, z2, z3, z4⟩ := E1.c5
  have f1 := D1.f
  have f2 := E1.f
  go_wp2
  refine bodyPost_ret (v := .agg #[.int .i64 k, .int .i64 i, .int .u64 u, .string s, .slice a n c]) (by simp [results, Tryz.results36, go_sem, World.cell?_setCell_same, World.cell?_setCell_other, z0, z1, z2, z3, z4]) rfl ⟨a, n, c, rfl, ?_, ?_⟩
  · refine hR _ _ _ _ _ R1.out (by simp) fun g hg => ?_
    simp (disch := (simp; omega)) only [Below.heap_setCell]
  · repeat' refine Below.setCell ?_ (by simp) _
    exact B1

end Go.Proofs.YtajagjcfmaggiaaGreatDoor
/- What is told of an answer, an error and a panic; something called whose panic is caught; the conditions: what it comes to. -/
namespace Go.Proofs.YtajagjcfmaggiaaGreatDoor
open Go.RowKit

/-- The cells of a result. -/
abbrev rcs (er co pk pn : Int) (has : Bool) (k i u : Int) (s : ByteArray) (a : Option Addr) (n c : Nat) : Array Value :=
  #[.int .i64 er, .int .i64 co, .int .i64 pk, .int .i64 pn, .bool has, .int .i64 k, .int .i64 i, .int .u64 u, .string s, .slice a n c]
abbrev rErr (er co pk pn : Int) : Array Value := rcs er co pk pn false 0 0 0 ⟨#[]⟩ none 0 0

theorem as_yes {P : Program} {t x : TypeId} {d : TypeDesc} {v z : Value} {w : World} (hU : P.underlying t = some d) (hd : ∀ m, d ≠ .interface m) (hz : (zeroValue t).run P w = .ok z w) : (Instr.typeAssert (.iface t v) x t true).run P w = .ok (.tuple #[v, .bool true]) w := by
  have h := assert_to (t := t) (x := x) (v := v) hU hd hz
  simpa using h
theorem as_no {P : Program} {t x asserted : TypeId} {d : TypeDesc} {v z : Value} {w : World} (hU : P.underlying asserted = some d) (hd : ∀ m, d ≠ .interface m) (hz : (zeroValue asserted).run P w = .ok z w) (hne : t ≠ asserted) : (Instr.typeAssert (.iface t v) x asserted true).run P w = .ok (.tuple #[z, .bool false]) w := by
  have h := assert_to (t := t) (x := x) (v := v) hU hd hz
  simpa [hne] using h

set_option maxRecDepth 100000 in
set_option maxHeartbeats 1000000 in
theorem ptold_assert (x : Int) (w : World) :
    Calls Tryz.prog 102 #[.iface 182 (.int .i64 x)] w fun e w' => e = .returned (.agg #[.int .i64 2, .int .i64 x]) ∧ Below w.heap.size w w' := by
  have a0 : ∀ w : World, (Instr.typeAssert (.iface 182 (.int .i64 x)) 20 182 true).run Tryz.prog w = .ok (.tuple #[.int .i64 x, .bool true]) w := fun w => as_yes Tryz.underlying182 (fun m h => by cases h) (z := .int .i64 0) (by kernel_rfl)
  go_enter Tryz.func102, Tryz.ntmps102
  go_wp2
  exact bodyPost_ret (v := .agg #[.int .i64 2, .int .i64 x]) (by simp [results, Tryz.results102, go_sem]) rfl ⟨rfl, by first | exact below1 _ _ | exact below2 _ _ _⟩

set_option maxRecDepth 100000 in
set_option maxHeartbeats 1000000 in
theorem ptold_nil  (w : World) :
    Calls Tryz.prog 102 #[.iface 183 (.agg #[])] w fun e w' => e = .returned (.agg #[.int .i64 3, .int .i64 0]) ∧ Below w.heap.size w w' := by
  have a0 : ∀ w : World, (Instr.typeAssert (.iface 183 (.agg #[])) 20 182 true).run Tryz.prog w = .ok (.tuple #[.int .i64 0, .bool false]) w := fun w => as_no Tryz.underlying182 (fun m h => by cases h) (by kernel_rfl) (by decide)
  have a1 : ∀ w : World, (Instr.typeAssert (.iface 183 (.agg #[])) 20 183 true).run Tryz.prog w = .ok (.tuple #[.agg #[], .bool true]) w := fun w => as_yes Tryz.underlying183 (fun m h => by cases h) (z := .agg #[]) (by kernel_rfl)
  go_enter Tryz.func102, Tryz.ntmps102
  go_wp2
  exact bodyPost_ret (v := .agg #[.int .i64 3, .int .i64 0]) (by simp [results, Tryz.results102, go_sem]) rfl ⟨rfl, by first | exact below1 _ _ | exact below2 _ _ _⟩

end Go.Proofs.YtajagjcfmaggiaaGreatDoor
