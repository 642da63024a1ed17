/- Chains of wrappers as plain lists, and the values that stand for their levels; no condition but those that each theorem names. -/
import Derived.Test.YtcbplamomhimiaaDoorUb
namespace Go.Proofs.YtcbplamomhimiaaDoor
open Go.RowKit

/-- A wrapper, as far as it counts here. -/
structure Wr where
  op : Int
  cp : Nat
  on : Bool

/-- What a wrapper answers for by itself, but for its being open; and with it. -/
def own (x : Wr) : Nat := if x.op = 4 then x.cp else if x.op = 7 then 16 else if x.op = 8 then 32 else if x.op = 9 then 5 else if x.op = 12 then 512 else 0
def giv (x : Wr) : Nat := if x.on = true then own x ||| 1024 else own x
/-- What it keeps of the level below. -/
def kp (x : Wr) (b : Nat) : Nat :=
  if x.op = 5 ∨ x.op = 6 ∨ x.op = 7 ∨ x.op = 8 ∨ x.op = 10 ∨ x.op = 11 then andN (andN b 1024) 4
  else if x.op = 2 then andN b 1024 &&& x.cp else if x.op = 3 then 0 else andN b 1024
/-- What is shown, from the outermost wrapper on. -/
def sh (c : Nat) : List Wr → Nat
  | [] => c
  | x :: r => kp x (sh c r) ||| giv x
def an : List Wr → Int → Nat
  | [], _ => 0
  | x :: r, k => if hs (giv x) k = true then r.length + 1 else an r k
def who (c : Nat) (ws : List Wr) (k : Int) : Int := if hs (sh c ws) k = true then (an ws k : Nat) else -1
def rch (c : Nat) : List Wr → Int → Int
  | [], k => who c [] k
  | x :: r, k => if 0 ≤ who c (x :: r) k then who c (x :: r) k else if x.on = true then rch c r k else -1

/-- What a fit chain asks of its wrappers, here. -/
def okr (x : Wr) : Prop := 1 ≤ x.op ∧ x.op ≤ 12 ∧ x.cp < 1024
theorem own_lt {x : Wr} (h : x.cp < 1024) : own x < 1024 := by
  unfold own; repeat' split
  all_goals omega
theorem or_lt {a b n : Nat} (ha : a < 2 ^ n) (hb : b < 2 ^ n) : a ||| b < 2 ^ n := Nat.or_lt_two_pow ha hb
theorem giv_lt {x : Wr} (h : x.cp < 1024) : giv x < 2048 := by
  have := own_lt h
  unfold giv; split
  · exact or_lt (n := 11) (by omega) (by decide)
  · omega
theorem andN_le (x y : Nat) : andN x y ≤ x := Nat.and_le_left
theorem kp_le (x : Wr) (b : Nat) : kp x b ≤ b := by
  unfold kp; repeat' split
  · exact Nat.le_trans (andN_le _ _) (andN_le _ _)
  · exact Nat.le_trans Nat.and_le_left (andN_le _ _)
  · omega
  · exact andN_le _ _
theorem sh_lt {c : Nat} (hc : c < 2048) : ∀ {ws : List Wr}, (∀ x ∈ ws, x.cp < 1024) → sh c ws < 2048
  | [], _ => hc
  | x :: r, h => by
    have := sh_lt hc (ws := r) (fun y hy => h y (List.mem_cons_of_mem _ hy))
    have h1 := kp_le x (sh c r)
    exact or_lt (n := 11) (by omega) (giv_lt (h x (by simp)))

/-! ### The values -/
def thr (u : Value) : Value := .iface 98 (.agg #[u])
def sgl (u : Value) : Value := .iface 100 (.agg #[u])
def gvg (l : Value) (o : Nat) : Value := .iface 84 (.agg #[l, .int .u32 o])
def clo (u : Value) (x : Wr) : Value :=
  if x.op = 5 ∨ x.op = 6 ∨ x.op = 10 ∨ x.op = 11 then sgl u else if x.op = 2 then .iface 102 (.agg #[u, .int .u32 x.cp])
  else if x.op = 3 then .iface 103 (.agg #[u]) else if x.op = 4 then gvg (thr u) x.cp else if x.op = 7 then gvg (sgl u) 16
  else if x.op = 8 then gvg (sgl u) 32 else if x.op = 9 then gvg (thr u) 5 else if x.op = 12 then gvg (thr u) 512 else thr u
def opd (l : Value) (o : Nat) (u : Value) : Value := .iface 86 (.agg #[l, .int .u32 o, u])
def aro (u : Value) (x : Wr) : Value := if x.on = true then opd (clo u x) (own x ||| 1024) u else clo u x
def lev (c : Nat) : List Wr → Value
  | [] => .iface 57 (.agg #[.int .u32 c])
  | x :: r => aro (lev c r) x

/-- A method of an interface value, called: whatever is promoted lies d deep at most. -/
def MC (d : Nat) (v : Value) (name : String) (xs : List Value) (r : Value) : Prop :=
  ∃ (T : TypeId) (z : Value) (F : Nat) (z' : Value), v = .iface T z ∧ (∀ fuel w, d < fuel → (method fuel T z name).run Tryd.prog w = .ok (F, z') w) ∧
    (∀ (args : Array Value) w, (callFunc F args).run Tryd.prog w = .ok (.enter F args) w) ∧
    ∀ w, Wds w → Calls Tryd.prog F (z' :: xs).toArray w fun e w' => e = .returned r ∧ Below w.heap.size w w'
theorem mc_lift {d : Nat} {u : Value} {name : String} {xs : List Value} {r : Value} (T : TypeId) (mk : Value → Value)
    (hm : ∀ fuel t z w, (method (fuel + 1) T (mk (.iface t z)) name).run Tryd.prog w = (method fuel t z name).run Tryd.prog w) (h : MC d u name xs r) : MC (d + 1) (.iface T (mk u)) name xs r := by
  obtain ⟨t, z, F, z', rfl, a, b, c⟩ := h
  refine ⟨T, _, F, z', rfl, fun fuel w hf => ?_, b, c⟩
  obtain ⟨f, rfl⟩ : ∃ f, fuel = f + 1 := ⟨fuel - 1, by omega⟩
  rw [hm]; exact a f w (by omega)
theorem mc_real {name : String} {xs : List Value} {r : Value} (T : TypeId) (z : Value) (F : Nat) (z' : Value) (hm : ∀ fuel w, (method (fuel + 1) T z name).run Tryd.prog w = .ok (F, z') w)
    (hc : ∀ (args : Array Value) w, (callFunc F args).run Tryd.prog w = .ok (.enter F args) w) (hC : ∀ w, Wds w → Calls Tryd.prog F (z' :: xs).toArray w fun e w' => e = .returned r ∧ Below w.heap.size w w') (d : Nat) : MC d (.iface T z) name xs r :=
  ⟨T, z, F, z', rfl, fun fuel w hf => by obtain ⟨f, rfl⟩ : ∃ f, fuel = f + 1 := ⟨fuel - 1, by omega⟩; exact hm f w, hc, hC⟩
theorem MC.mono {d e : Nat} {v : Value} {name : String} {xs : List Value} {r : Value} (h : MC d v name xs r) (hd : d ≤ e) : MC e v name xs r := by
  obtain ⟨t, z, F, z', rfl, a, b, c⟩ := h
  exact ⟨t, z, F, z', rfl, fun fuel w hf => a fuel w (by omega), b, c⟩
theorem MC.get {d : Nat} {v : Value} {name : String} {xs : List Value} {r : Value} (h : MC d v name xs r) (hd : d < 224) :
    ∃ (T : TypeId) (z : Value) (F : Nat) (z' : Value), v = .iface T z ∧ (∀ w, (method 224 T z name).run Tryd.prog w = .ok (F, z') w) ∧
    (∀ (args : Array Value) w, (callFunc F args).run Tryd.prog w = .ok (.enter F args) w) ∧
    Hid (∀ w, Wds w → Calls Tryd.prog F (z' :: xs).toArray w fun e w' => e = .returned r ∧ Below w.heap.size w w') := by
  obtain ⟨t, z, F, z', rfl, a, b, c⟩ := h
  exact ⟨t, z, F, z', rfl, fun w => a _ w hd, b, c⟩

/-! ### What is promoted -/
theorem up_ans_thr {d : Nat} {u : Value} {xs : List Value} {r : Value} (h : MC d u "conduit/shown.answers" xs r) : MC (d + 1) (thr u) "conduit/shown.answers" xs r :=
  mc_lift 98 (fun u => .agg #[u]) (fun _ _ _ _ => by kernel_rfl) h
theorem up_ans_sgl {d : Nat} {u : Value} {xs : List Value} {r : Value} (h : MC d u "conduit/shown.answers" xs r) : MC (d + 1) (sgl u) "conduit/shown.answers" xs r :=
  mc_lift 100 (fun u => .agg #[u]) (fun _ _ _ _ => by kernel_rfl) h
theorem up_ans_hid {d : Nat} {u : Value} {xs : List Value} {r : Value} (h : MC d u "conduit/shown.answers" xs r) : MC (d + 1) (.iface 103 (.agg #[u])) "conduit/shown.answers" xs r :=
  mc_lift 103 (fun u => .agg #[u]) (fun _ _ _ _ => by kernel_rfl) h
theorem up_ans_msk {d : Nat} {u o : Value} {xs : List Value} {r : Value} (h : MC d u "conduit/shown.answers" xs r) : MC (d + 1) (.iface 102 (.agg #[u, o])) "conduit/shown.answers" xs r :=
  mc_lift 102 (fun u => .agg #[u, o]) (fun _ _ _ _ => by kernel_rfl) h
theorem up_num_gvg {d : Nat} {l : Value} {o : Nat} {xs : List Value} {r : Value} (h : MC d l "conduit/shown.number" xs r) : MC (d + 1) (gvg l o) "conduit/shown.number" xs r :=
  mc_lift 84 (fun u => .agg #[u, .int .u32 o]) (fun _ _ _ _ => by kernel_rfl) h
theorem up_num_opd {d : Nat} {l u : Value} {o : Nat} {xs : List Value} {r : Value} (h : MC d l "conduit/shown.number" xs r) : MC (d + 1) (opd l o u) "conduit/shown.number" xs r :=
  mc_lift 86 (fun l => .agg #[l, .int .u32 o, u]) (fun _ _ _ _ => by kernel_rfl) h
/-! ### one block of one's own -/
def On (w : World) (o : Obj) (w' : World) : Prop := Below (w.heap.size + 1) (w.alloc o) w'
theorem On.drew {w w' : World} {o : Obj} (h : On w o w') : On w o w'.drew := Below.drew h
theorem On.below {w w' : World} {o : Obj} (h : On w o w') : Below w.heap.size w w' := (below1 w _).trans (Below.mono h (by omega))
theorem On.size {w w' : World} {o : Obj} (h : On w o w') : w.heap.size + 1 ≤ w'.heap.size := by have := Below.size h; simpa using this
theorem On.step {w w1 w2 : World} {o : Obj} (h : On w o w1) (hb : Below w1.heap.size w1 w2) : On w o w2 := Below.trans h (hb.mono h.size)
theorem On.start (w : World) (o : Obj) : On w o (w.alloc o) := Below.refl _ _
theorem On.cell {w w' : World} {cs : Array Value} {t : TypeId} {f : Nat × Nat} (h : On w (.cells cs t f) w') (j : Nat) : w'.cell? ⟨w.heap.size, j, none⟩ = cs[j]? := by
  have e : (w.alloc (.cells cs t f)).cell? ⟨w.heap.size, j, none⟩ = cs[j]? := cell_at (heap_alloc_new w _) j
  exact (Below.cell h (p := ⟨w.heap.size, j, none⟩) (by show w.heap.size < _; omega)).trans e
end Go.Proofs.YtcbplamomhimiaaDoor
