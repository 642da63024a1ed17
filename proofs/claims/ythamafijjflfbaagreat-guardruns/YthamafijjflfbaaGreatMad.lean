/- What the package's inner 'holds' answers at a pattern without parts; the conditions: the pattern is right, the value is of a kind from 0 to 13. -/
import Derived.Test.YthamafijjflfbaaGreatMac
import Derived.Deep.AppendLies
namespace Go.Proofs.YthamafijjflfbaaGreat
open Go.RowKit

theorem Kd.sx {k : Int} {u : Value} (h : Kd k u) : Sx u := by
  rcases h with ⟨_, h⟩ | ⟨_, _, v, h, _⟩
  · exact .inl h
  · exact .inr ⟨_, _, h⟩
theorem Kd.nil_iff {k : Int} {u : Value} (h : Kd k u) (h0 : 0 ≤ k) (h1 : k ≤ 13) : (k = 0 ∧ u = .nilIface) ∨ (k ≠ 0 ∧ ∃ T z, u = .iface T z) := by
  rcases h with ⟨h2, h⟩ | ⟨h2, _, v, h, _⟩
  · exact .inl ⟨by omega, h⟩
  · exact .inr ⟨by omega, _, _, h⟩

theorem cell_of {w : World} {N T : Nat} {v : Value} (h : w.heap[N]? = some (.cells #[v] T (0, 0))) : w.cell? ⟨N, 0, none⟩ = some v := by simp [World.cell?, h]
/-- The two blocks that 'holds' begins with. -/
def Two (w : World) (o m : Int) (ad : Option Addr) (len cap : Nat) (u : Value) (w' : World) : Prop :=
  Below (w.heap.size + 2) ((w.alloc (.cells #[.int .i64 o, .int .i64 m, .slice ad len cap] 51)).alloc (.cells #[u] 20)) w'
theorem Two.drew {w : World} {o m : Int} {ad : Option Addr} {len cap : Nat} {u : Value} {w' : World} (h : Two w o m ad len cap u w') : Two w o m ad len cap u w'.drew := Below.drew h
theorem Two.c1 {w : World} {o m : Int} {ad : Option Addr} {len cap : Nat} {u : Value} {w' : World} (h : Two w o m ad len cap u w') : w'.cell? ⟨w.heap.size, 1, none⟩ = some (.int .i64 m) := by
  have := (((P3.new w (.int .i64 o) (.int .i64 m) (.slice ad len cap)).below (below1 _ (.cells #[u] 20)))).c.2.1
  rw [← this]; exact Below.cell h (p := ⟨w.heap.size, 1, none⟩) (by show w.heap.size < w.heap.size + 2; omega)
theorem Two.c2 {w : World} {o m : Int} {ad : Option Addr} {len cap : Nat} {u : Value} {w' : World} (h : Two w o m ad len cap u w') : w'.cell? ⟨w.heap.size, 2, none⟩ = some (.slice ad len cap) := by
  have := (((P3.new w (.int .i64 o) (.int .i64 m) (.slice ad len cap)).below (below1 _ (.cells #[u] 20)))).c.2.2
  rw [← this]; exact Below.cell h (p := ⟨w.heap.size, 2, none⟩) (by show w.heap.size < w.heap.size + 2; omega)
theorem Two.cu {w : World} {o m : Int} {ad : Option Addr} {len cap : Nat} {u : Value} {w' : World} (h : Two w o m ad len cap u w') : w'.cell? ⟨w.heap.size + 1, 0, none⟩ = some u := by
  have : ((w.alloc (.cells #[.int .i64 o, .int .i64 m, .slice ad len cap] 51)).alloc (.cells #[u] 20)).cell? ⟨w.heap.size + 1, 0, none⟩ = some u := by
    have := heap_alloc_new (w.alloc (.cells #[.int .i64 o, .int .i64 m, .slice ad len cap] 51)) (.cells #[u] 20)
    rw [World.size_alloc] at this
    exact cell_of this
  rw [← this]; exact Below.cell h (p := ⟨w.heap.size + 1, 0, none⟩) (by show w.heap.size + 1 < w.heap.size + 2; omega)
theorem Two.below {w : World} {o m : Int} {ad : Option Addr} {len cap : Nat} {u : Value} {w' : World} (h : Two w o m ad len cap u w') : Below w.heap.size w w' := (below2 w _ _).trans (Below.mono h (by omega))
theorem Two.step {w : World} {o m : Int} {ad : Option Addr} {len cap : Nat} {u : Value} {w1 w2 : World} (h : Two w o m ad len cap u w1) (hb : Below w1.heap.size w1 w2) : Two w o m ad len cap u w2 := by
  have := Below.size h
  simp at this
  exact Below.trans h (hb.mono (by omega))
theorem Two.start (w : World) (o m : Int) (ad : Option Addr) (len cap : Nat) (u : Value) : Two w o m ad len cap u ((w.alloc (.cells #[.int .i64 o, .int .i64 m, .slice ad len cap] 51)).alloc (.cells #[u] 20)) := Below.refl _ _

end Go.Proofs.YthamafijjflfbaaGreat
/- What the package's inner 'holds' answers at the pattern of one kind; the conditions: a kind, a value of a kind. -/
namespace Go.Proofs.YthamafijjflfbaaGreat
open Go.RowKit

theorem below_dn {B : Nat} {a w : World} (h : Below B a w) (n : Nat) : Below B a (w.drewN n) := ⟨h.os, h.tape, h.output, h.size, h.block⟩

end Go.Proofs.YthamafijjflfbaaGreat
/- What the package's inner 'holds' answers at any right pattern: whether it holds of the value's kind; the conditions: the pattern's tree lies in memory and is right, the value is of a kind from 0 to 13. -/
namespace Go.Proofs.YthamafijjflfbaaGreat
open Go.RowKit

/-- The place of the first that p says yes of. -/
def fst {T : Type} (p : T → Bool) : List T → Nat → Int
  | [], _ => -1
  | x :: l, j => if p x = true then j else fst p l (j + 1)
theorem fst_bd {T : Type} (p : T → Bool) : ∀ (l : List T) (j : Nat), -1 ≤ fst p l j ∧ (0 ≤ fst p l j ↔ l.any p = true) ∧ fst p l j ≤ j + l.length
  | [], j => by simp [fst]
  | x :: l, j => by
    have := fst_bd p l (j + 1)
    simp only [fst, List.any_cons, List.length_cons]
    by_cases h : p x = true
    · rw [if_pos h, h]; simp; omega
    · rw [if_neg h]
      have h' : p x = false := by simpa using h
      rw [h', Bool.false_or]
      exact ⟨this.1, this.2.1, by omega⟩
theorem fst_cons {T : Type} (p : T → Bool) (x : T) (l : List T) (j : Nat) : fst p (x :: l) j = if p x = true then (j : Int) else fst p l (j + 1) := rfl

theorem all_not_any {T : Type} (p : T → Bool) : ∀ l : List T, (!(l.any fun s => !(p s))) = l.all p
  | [] => rfl
  | x :: l => by
    have := all_not_any p l
    simp only [List.any_cons, List.all_cons, ← this]
    cases p x <;> simp

end Go.Proofs.YthamafijjflfbaaGreat
/- The package's Kinds, Holds, Covers and Meets at right patterns: the kinds of which the pattern holds, as bits, and what follows of them; the conditions: the patterns' trees lie in memory and are right. -/
namespace Go.Proofs.YthamafijjflfbaaGreat
open Go.RowKit

theorem bit_at (j : Nat) (h : j < 14) : (2 : Int) ^ j % 4294967296 = ((2 ^ j : Nat) : Int) := by
  have : j = 0 ∨ j = 1 ∨ j = 2 ∨ j = 3 ∨ j = 4 ∨ j = 5 ∨ j = 6 ∨ j = 7 ∨ j = 8 ∨ j = 9 ∨ j = 10 ∨ j = 11 ∨ j = 12 ∨ j = 13 := by omega
  rcases this with rfl | rfl | rfl | rfl | rfl | rfl | rfl | rfl | rfl | rfl | rfl | rfl | rfl | rfl <;> decide
theorem or_at (p : Int → Bool) (j : Nat) (h : j < 14) (hp : p j = true) : bits .or .u32 ((kset p j : Nat) : Int) ((2 : Int) ^ j % 4294967296) = ((kset p (j + 1) : Nat) : Int) := by
  have h1 := kset_lt p j
  have h2 : (2 : Nat) ^ j ≤ 2 ^ 13 := Nat.pow_le_pow_right (by decide) (by omega)
  rw [bit_at j h, u32_or_nat _ _ (by omega) (by omega)]
  simp only [kset, if_pos hp]

theorem kset_no (p : Int → Bool) (j : Nat) (hp : p j = false) : kset p j = kset p (j + 1) := by simp only [kset, hp]; rfl
/-- The pattern's own block, whatever is done behind it. -/
def One (w : World) (v0 v1 v2 : Value) (w' : World) : Prop := Below (w.heap.size + 1) (w.alloc (.cells #[v0, v1, v2] 51)) w'
theorem One.drew {w : World} {v0 v1 v2 : Value} {w' : World} (h : One w v0 v1 v2 w') : One w v0 v1 v2 w'.drew := Below.drew h
theorem One.below {w : World} {v0 v1 v2 : Value} {w' : World} (h : One w v0 v1 v2 w') : Below w.heap.size w w' := (below1 w _).trans (Below.mono h (by omega))
theorem One.step {w : World} {v0 v1 v2 : Value} {w1 w2 : World} (h : One w v0 v1 v2 w1) (hb : Below w1.heap.size w1 w2) : One w v0 v1 v2 w2 := by
  have := Below.size h
  simp at this
  exact Below.trans h (hb.mono (by omega))
theorem One.c {w : World} {v0 v1 v2 : Value} {w' : World} (h : One w v0 v1 v2 w') : w'.cell? ⟨w.heap.size, 0, none⟩ = some v0 ∧ w'.cell? ⟨w.heap.size, 1, none⟩ = some v1 ∧ w'.cell? ⟨w.heap.size, 2, none⟩ = some v2 := by
  obtain ⟨h0, h1, h2⟩ := (P3.new w v0 v1 v2).c
  refine ⟨?_, ?_, ?_⟩
  · rw [← h0]; exact Below.cell h (p := ⟨w.heap.size, 0, none⟩) (by show w.heap.size < w.heap.size + 1; omega)
  · rw [← h1]; exact Below.cell h (p := ⟨w.heap.size, 1, none⟩) (by show w.heap.size < w.heap.size + 1; omega)
  · rw [← h2]; exact Below.cell h (p := ⟨w.heap.size, 2, none⟩) (by show w.heap.size < w.heap.size + 1; omega)
theorem One.start (w : World) (v0 v1 v2 : Value) : One w v0 v1 v2 (w.alloc (.cells #[v0, v1, v2] 51)) := Below.refl _ _

/-- What the two blocks of Holds keep. -/
def OneD (w : World) (v0 v1 v2 : Value) (k i b : Int) (s : ByteArray) (ad : Option Addr) (len cap : Nat) (w' : World) : Prop :=
  Below (w.heap.size + 2) ((w.alloc (.cells #[v0, v1, v2] 51)).alloc (.cells #[.int .i64 k, .int .i64 i, .int .u64 b, .string s, .slice ad len cap] 25)) w'
end Go.Proofs.YthamafijjflfbaaGreat
/- The interfaces' methods, by the package and by the document: the same rows; which kinds lack one, and which have all; no condition. -/
namespace Go.Proofs.YthamafijjflfbaaGreat
open Go.RowKit

/-- The row of numbers l lies behind v. -/
def IR (w : World) (v : Value) (l : List Int) : Prop := ∃ (ad : Option Addr) (cap : Nat), v = .slice ad l.length cap ∧ l.length ≤ cap ∧ cap ≤ maxLen ∧
  (l = [] ∨ ∃ g, ad = some ⟨g, 0, none⟩ ∧ ∀ (j : Nat) (x : Int), l[j]? = some x → w.cell? ⟨g, j, none⟩ = some (.int .i64 x))
theorem IR.below {w w' : World} {v : Value} {l : List Int} (h : IR w v l) (hb : Below w.heap.size w w') : IR w' v l := by
  obtain ⟨ad, cap, h1, h2, h3, h4⟩ := h
  refine ⟨ad, cap, h1, h2, h3, ?_⟩
  rcases h4 with h4 | ⟨g, h5, h6⟩
  · exact .inl h4
  · refine .inr ⟨g, h5, fun j x hj => ?_⟩
    have c := h6 j x hj
    exact (hb.cell (p := ⟨g, _, none⟩) (World.block_lt_of_cell? w _ c)).trans c
theorem ret_true {b : Bool} (h : b = true) : Ending.returned (.bool true) = .returned (.bool b) := by rw [h]

set_option maxHeartbeats 1000000 in
theorem refHas_any (k m : Int) (w : World) :
    Calls Tryz.prog 69 #[.int .i64 k, .int .i64 m] w fun e w' => e = .returned (.bool (refHas k m)) ∧ w' = w := by
  by_cases h0 : m = 0
  · subst h0
    show Calls Tryz.prog 69 _ w fun e w' => e = .returned (.bool (k == 4 || k == 5 || k == 7 || k == 8 || k == 9 || k == 11 || k == 12)) ∧ w' = w
    go_enter Tryz.func69, Tryz.ntmps69
    go_wp2
    all_goals (go_ret; first | exact ⟨rfl, rfl⟩ | exact ⟨ret_true (by simp_all), rfl⟩)
  by_cases h1 : m = 1
  · subst h1
    show Calls Tryz.prog 69 _ w fun e w' => e = .returned (.bool (k == 5 || k == 2 || k == 10)) ∧ w' = w
    clear h0
    go_enter Tryz.func69, Tryz.ntmps69
    go_wp2
    all_goals (go_ret; first | exact ⟨rfl, rfl⟩ | exact ⟨ret_true (by simp_all), rfl⟩)
  by_cases h2 : m = 2
  · subst h2
    show Calls Tryz.prog 69 _ w fun e w' => e = .returned (.bool (k == 10 || k == 11 || k == 12)) ∧ w' = w
    clear h0 h1
    go_enter Tryz.func69, Tryz.ntmps69
    go_wp2
    all_goals (go_ret; first | exact ⟨rfl, rfl⟩ | exact ⟨ret_true (by simp_all), rfl⟩)
  by_cases h3 : m = 3
  · subst h3
    show Calls Tryz.prog 69 _ w fun e w' => e = .returned (.bool (k == 11 || k == 12)) ∧ w' = w
    clear h0 h1 h2
    go_enter Tryz.func69, Tryz.ntmps69
    go_wp2
    all_goals (go_ret; first | exact ⟨rfl, rfl⟩ | exact ⟨ret_true (by simp_all), rfl⟩)
  by_cases h4 : m = 4
  · subst h4
    show Calls Tryz.prog 69 _ w fun e w' => e = .returned (.bool (k == 1 || k == 2 || k == 3 || k == 4 || k == 5)) ∧ w' = w
    clear h0 h1 h2 h3
    go_enter Tryz.func69, Tryz.ntmps69
    go_wp2
    all_goals (go_ret; first | exact ⟨rfl, rfl⟩ | exact ⟨ret_true (by simp_all), rfl⟩)
  by_cases h5 : m = 5
  · subst h5
    show Calls Tryz.prog 69 _ w fun e w' => e = .returned (.bool (k == 1 || k == 3)) ∧ w' = w
    clear h0 h1 h2 h3 h4
    go_enter Tryz.func69, Tryz.ntmps69
    go_wp2
    all_goals (go_ret; first | exact ⟨rfl, rfl⟩ | exact ⟨ret_true (by simp_all), rfl⟩)
  have hf : refHas k m = false := by unfold refHas; simp [h0, h1, h2, h3, h4, h5]
  rw [hf]; clear hf
  have g0 : (m == 0) = false := by simpa using h0
  have g1 : (m == 1) = false := by simpa using h1
  have g2 : (m == 2) = false := by simpa using h2
  have g3 : (m == 3) = false := by simpa using h3
  have g4 : (m == 4) = false := by simpa using h4
  have g5 : (m == 5) = false := by simpa using h5
  clear h0 h1 h2 h3 h4 h5
  go_enter Tryz.func69, Tryz.ntmps69
  go_wp2
  go_ret
  exact ⟨rfl, rfl⟩

theorem ir_new (w : World) (l : List Int) (hl : l.length ≤ 3) : IR (w.alloc (.cells ((l.map (Value.int .i64)).toArray) 3)) (.slice (some ⟨w.heap.size, 0, none⟩) l.length l.length) l :=
  ⟨some ⟨w.heap.size, 0, none⟩, l.length, rfl, Nat.le_refl _, by unfold maxLen; omega, .inr ⟨w.heap.size, rfl, fun j x hj => by
    have h := heap_alloc_new w (.cells ((l.map (Value.int .i64)).toArray) 3)
    have : ∀ W : World, W.heap[w.heap.size]? = some (.cells ((l.map (Value.int .i64)).toArray) 3 (0, 0)) → W.cell? ⟨w.heap.size, j, none⟩ = some (.int .i64 x) := fun W hW => by
      simp [World.cell?, hW, hj]
    exact this _ h⟩⟩
set_option maxRecDepth 100000 in
theorem refMethods0 (w : World) : Calls Tryz.prog 68 #[.int .i64 0] w fun e w' => ∃ v, e = .returned v ∧ IR w' v (mths 0) ∧ Below w.heap.size w w' := by
  go_enter Tryz.func68, Tryz.ntmps68
  go_wp2
  go_ret
  exact ⟨_, rfl, ir_new w (mths 0) (by decide), below1 w _⟩
set_option maxRecDepth 100000 in
theorem refMethods1 (w : World) : Calls Tryz.prog 68 #[.int .i64 1] w fun e w' => ∃ v, e = .returned v ∧ IR w' v (mths 1) ∧ Below w.heap.size w w' := by
  go_enter Tryz.func68, Tryz.ntmps68
  go_wp2
  go_ret
  exact ⟨_, rfl, ir_new w (mths 1) (by decide), below1 w _⟩
set_option maxRecDepth 100000 in
theorem refMethods2 (w : World) : Calls Tryz.prog 68 #[.int .i64 2] w fun e w' => ∃ v, e = .returned v ∧ IR w' v (mths 2) ∧ Below w.heap.size w w' := by
  go_enter Tryz.func68, Tryz.ntmps68
  go_wp2
  go_ret
  exact ⟨_, rfl, ir_new w (mths 2) (by decide), below1 w _⟩
set_option maxRecDepth 100000 in
theorem refMethods3 (w : World) : Calls Tryz.prog 68 #[.int .i64 3] w fun e w' => ∃ v, e = .returned v ∧ IR w' v (mths 3) ∧ Below w.heap.size w w' := by
  go_enter Tryz.func68, Tryz.ntmps68
  go_wp2
  go_ret
  exact ⟨_, rfl, ir_new w (mths 3) (by decide), below1 w _⟩
set_option maxRecDepth 100000 in
theorem refMethods4 (w : World) : Calls Tryz.prog 68 #[.int .i64 4] w fun e w' => ∃ v, e = .returned v ∧ IR w' v (mths 4) ∧ Below w.heap.size w w' := by
  go_enter Tryz.func68, Tryz.ntmps68
  go_wp2
  go_ret
  exact ⟨_, rfl, ir_new w (mths 4) (by decide), below1 w _⟩
set_option maxRecDepth 100000 in
theorem refMethods5 (w : World) : Calls Tryz.prog 68 #[.int .i64 5] w fun e w' => ∃ v, e = .returned v ∧ IR w' v (mths 5) ∧ Below w.heap.size w w' := by
  go_enter Tryz.func68, Tryz.ntmps68
  go_wp2
  go_ret
  exact ⟨_, rfl, ir_new w (mths 5) (by decide), below1 w _⟩
set_option maxRecDepth 100000 in
theorem refMethods6 (w : World) : Calls Tryz.prog 68 #[.int .i64 6] w fun e w' => ∃ v, e = .returned v ∧ IR w' v (mths 6) ∧ Below w.heap.size w w' := by
  go_enter Tryz.func68, Tryz.ntmps68
  go_wp2
  go_ret
  exact ⟨_, rfl, ir_new w (mths 6) (by decide), below1 w _⟩
set_option maxRecDepth 100000 in
theorem refMethods7 (w : World) : Calls Tryz.prog 68 #[.int .i64 7] w fun e w' => ∃ v, e = .returned v ∧ IR w' v (mths 7) ∧ Below w.heap.size w w' := by
  go_enter Tryz.func68, Tryz.ntmps68
  go_wp2
  go_ret
  exact ⟨_, rfl, ir_new w (mths 7) (by decide), below1 w _⟩
set_option maxRecDepth 100000 in
theorem refMethods8 (w : World) : Calls Tryz.prog 68 #[.int .i64 8] w fun e w' => ∃ v, e = .returned v ∧ IR w' v (mths 8) ∧ Below w.heap.size w w' := by
  go_enter Tryz.func68, Tryz.ntmps68
  go_wp2
  go_ret
  exact ⟨_, rfl, ir_new w (mths 8) (by decide), below1 w _⟩
set_option maxRecDepth 100000 in
theorem refMethods9 (w : World) : Calls Tryz.prog 68 #[.int .i64 9] w fun e w' => ∃ v, e = .returned v ∧ IR w' v (mths 9) ∧ Below w.heap.size w w' := by
  go_enter Tryz.func68, Tryz.ntmps68
  go_wp2
  go_ret
  exact ⟨_, rfl, ir_new w (mths 9) (by decide), below1 w _⟩
set_option maxRecDepth 100000 in
theorem refMethodsNo (f : Int) (h : f < 0 ∨ 9 < f) (w : World) : Calls Tryz.prog 68 #[.int .i64 f] w fun e w' => ∃ v, e = .returned v ∧ IR w' v [] ∧ Below w.heap.size w w' := by
  have h0 : (f == 0) = false := by simp; omega
  have h1 : (f == 1) = false := by simp; omega
  have h2 : (f == 2) = false := by simp; omega
  have h3 : (f == 3) = false := by simp; omega
  have h4 : (f == 4) = false := by simp; omega
  have h5 : (f == 5) = false := by simp; omega
  have h6 : (f == 6) = false := by simp; omega
  have h7 : (f == 7) = false := by simp; omega
  have h8 : (f == 8) = false := by simp; omega
  have h9 : (f == 9) = false := by simp; omega
  clear h
  go_enter Tryz.func68, Tryz.ntmps68
  go_wp2
  go_ret
  exact ⟨_, rfl, ⟨none, 0, rfl, Nat.le_refl _, by unfold maxLen; omega, .inl rfl⟩, Below.refl _ _⟩
theorem mths_no (f : Int) (h : f < 0 ∨ 9 < f) : mths f = [] := by
  unfold mths
  rw [if_neg (show ¬ f = 0 by omega)]
  rw [if_neg (show ¬ f = 1 by omega)]
  rw [if_neg (show ¬ f = 2 by omega)]
  rw [if_neg (show ¬ f = 3 by omega)]
  rw [if_neg (show ¬ f = 4 by omega)]
  rw [if_neg (show ¬ f = 5 by omega)]
  rw [if_neg (show ¬ f = 6 by omega)]
  rw [if_neg (show ¬ f = 7 by omega)]
  rw [if_neg (show ¬ f = 8 by omega)]
  rw [if_neg (show ¬ f = 9 by omega)]
theorem refMethods_any (f : Int) (w : World) : Calls Tryz.prog 68 #[.int .i64 f] w fun e w' => ∃ v, e = .returned v ∧ IR w' v (mths f) ∧ Below w.heap.size w w' := by
  by_cases h : f < 0 ∨ 9 < f
  · rw [mths_no f h]; exact refMethodsNo f h w
  have hk : f = 0 ∨ f = 1 ∨ f = 2 ∨ f = 3 ∨ f = 4 ∨ f = 5 ∨ f = 6 ∨ f = 7 ∨ f = 8 ∨ f = 9 := by omega
  rcases hk with rfl | rfl | rfl | rfl | rfl | rfl | rfl | rfl | rfl | rfl
  · exact refMethods0 w
  · exact refMethods1 w
  · exact refMethods2 w
  · exact refMethods3 w
  · exact refMethods4 w
  · exact refMethods5 w
  · exact refMethods6 w
  · exact refMethods7 w
  · exact refMethods8 w
  · exact refMethods9 w

theorem mths_bd (f : Int) : (mths f).length ≤ 3 ∧ ∀ m ∈ mths f, 0 ≤ m ∧ m ≤ 5 := by
  by_cases h : f < 0 ∨ 9 < f
  · rw [mths_no f h]; simp
  have hk : f = 0 ∨ f = 1 ∨ f = 2 ∨ f = 3 ∨ f = 4 ∨ f = 5 ∨ f = 6 ∨ f = 7 ∨ f = 8 ∨ f = 9 := by omega
  rcases hk with rfl | rfl | rfl | rfl | rfl | rfl | rfl | rfl | rfl | rfl <;> decide
theorem lackL_cons (k m : Int) (l : List Int) : lackL k (m :: l) = if refHas k m = true then lackL k l else m := rfl

set_option maxRecDepth 100000 in
set_option maxHeartbeats 1000000 in
theorem lacks_any (k f : Int) (w : World) : Calls Tryz.prog 47 #[.int .i64 k, .int .i64 f] w fun e w' => e = .returned (.int .i64 (lacks k f)) ∧ Below w.heap.size w w' := by
  by_cases h0 : k < 0
  · have e : lacks k f = -1 := by unfold lacks; rw [if_pos (.inl h0)]
    rw [e]; clear e
    go_enter Tryz.func47, Tryz.ntmps47
    go_wp2
    go_ret
    exact ⟨rfl, Below.refl _ _⟩
  by_cases h1 : 14 ≤ k
  · have e : lacks k f = -1 := by unfold lacks; rw [if_pos (.inr h1)]
    rw [e]; clear e
    go_enter Tryz.func47, Tryz.ntmps47
    go_wp2
    go_ret
    exact ⟨rfl, Below.refl _ _⟩
  have e : lacks k f = lackL k (mths f) := by unfold lacks; rw [if_neg (by omega)]
  rw [e]; clear e
  have H := Lib.hid (refMethods_any f)
  have hbd := (mths_bd f).1
  generalize mths f = l at H hbd
  have HR := Lib.hid (refHas_any k)
  go_enter Tryz.func47, Tryz.ntmps47
  go_wp2_with fail
  refine (H.out _).mono ?_
  rintro e w1 ⟨v, rfl, ir, b1⟩
  obtain ⟨ad, cap, rfl, hc, hm, hr⟩ := ir
  have HK := Lib.hid hr
  clear hr H
  unfold maxLen at hm
  go_wp2_with fail
  go_loopw [6] (fun si wr => ∃ (j : Nat), si = .int .i64 j ∧ j ≤ l.length ∧ lackL k (l.drop j) = lackL k l ∧ wr = w1) (fun si _ => l.length - (intOf si).toNat)
  case atStart => exact ⟨0, rfl, Nat.zero_le _, rfl, rfl⟩
  case round =>
    obtain ⟨j, rfl, hj, hinv, rfl⟩ := hrel
    have HV := Lib.hid hinv
    clear hinv
    by_cases hlt : j < l.length
    · have hne : l ≠ [] := by intro e; rw [e] at hlt; exact absurd hlt (Nat.not_lt_zero _)
      rcases HK.out with hk | ⟨g, hk1, hk2⟩
      · exact absurd hk hne
      subst hk1
      have x0 := hk2 j _ (List.getElem?_eq_getElem hlt)
      have hv := HV.out
      rw [drop_atW l j hlt, lackL_cons] at hv
      clear HV hk2
      generalize l[j] = m at hv x0
      go_wp2_with fail
      refine (HR.out m _).mono ?_
      rintro e w2 ⟨he, rfl⟩
      cases hb : refHas k m with
      | true =>
        rw [hb] at he
        rw [if_pos hb] at hv
        have HW := Lib.hid hv
        clear hv hb
        subst he
        go_wp2_with fail
        exact ⟨⟨j + 1, by go_num, by omega, HW.out, trivial⟩, by simp [intOf]; omega⟩
      | false =>
        rw [hb] at he
        rw [if_neg (by rw [hb]; decide)] at hv
        have HW := Lib.hid hv
        clear hv hb
        subst he
        go_wp2_with fail
        go_ret
        exact ⟨by rw [← HW.out]; rfl, b1⟩
    · have hje : j = l.length := by omega
      have hv := HV.out
      rw [hje, List.drop_length] at hv
      have HW := Lib.hid hv
      clear hv HV
      go_wp2_with fail
      go_ret
      exact ⟨by rw [← HW.out]; rfl, b1⟩

set_option maxRecDepth 100000 in
set_option maxHeartbeats 1000000 in
theorem refImpl_any (k f : Int) (w : World) : Calls Tryz.prog 52 #[.int .i64 k, .int .i64 f] w fun e w' => e = .returned (.bool (impl k f)) ∧ Below w.heap.size w w' := by
  by_cases h0 : 0 < k
  · by_cases h1 : k < 14
    · have H := Lib.hid (refMethods_any f)
      have HL : Hid (∀ wx, Below w.heap.size w wx → Calls Tryz.prog 47 #[.int .i64 k, .int .i64 f] wx fun e w' => e = .returned (.int .i64 (lacks k f)) ∧ Below w.heap.size w w') := fun wx hx => since (lacks_any k f wx) hx
      have e : impl k f = (decide (0 < (mths f).length) && (lacks k f == -1)) := by unfold impl; simp [h0, h1]
      rw [e]; clear e
      generalize lacks k f = z at HL
      generalize mths f = l at H
      by_cases hl : 0 < l.length
      · have hl' : (0 : Int) < (l.length : Int) := by omega
        rw [decide_eq_true hl, Bool.true_and]
        go_enter Tryz.func52, Tryz.ntmps52
        go_wp2_with fail
        refine (H.out _).mono ?_
        rintro e w1 ⟨v, rfl, ir, b1⟩
        obtain ⟨ad, cap, rfl, -, -, -⟩ := ir
        go_wp2_with fail
        refine (HL.out _ b1).mono ?_
        rintro e w2 ⟨rfl, b2⟩
        go_wp2
        all_goals go_ret
        all_goals exact ⟨ret_b (by simp), b2⟩
      · have hl' : ¬ ((0 : Int) < (l.length : Int)) := by omega
        rw [decide_eq_false hl, Bool.false_and]
        go_enter Tryz.func52, Tryz.ntmps52
        go_wp2_with fail
        refine (H.out _).mono ?_
        rintro e w1 ⟨v, rfl, ir, b1⟩
        obtain ⟨ad, cap, rfl, -, -, -⟩ := ir
        go_wp2_with fail
        go_ret
        exact ⟨rfl, b1⟩
    · have e : impl k f = false := impl_no (by omega) f
      rw [e]; clear e
      go_enter Tryz.func52, Tryz.ntmps52
      go_wp2
      go_ret
      exact ⟨rfl, Below.refl _ _⟩
  · have e : impl k f = false := impl_no (by omega) f
    rw [e]; clear e
    go_enter Tryz.func52, Tryz.ntmps52
    go_wp2
    go_ret
    exact ⟨rfl, Below.refl _ _⟩
end Go.Proofs.YthamafijjflfbaaGreat
/- The document's answers by pieces: a result with a value, a panic, an assertion to a kind or to an interface, a box opened, a quotient; the conditions: what their pieces come to. -/
namespace Go.Proofs.YthamafijjflfbaaGreat
open Go.RowKit

set_option maxRecDepth 100000 in
set_option maxHeartbeats 1000000 in
theorem rgave_any (k i b : Int) (s : ByteArray) (ad : Option Addr) (len cap : Nat) (w : World) :
    Calls Tryz.prog 22 #[.agg #[.int .i64 k, .int .i64 i, .int .u64 b, .string s, .slice ad len cap]] w fun e w' => e = .returned (.agg (rcs 0 0 0 0 true k i b s ad len cap)) ∧ Below w.heap.size w w' := by
  go_enter Tryz.func22, Tryz.ntmps22
  go_wp2
  exact bodyPost_ret (v := .agg (rcs 0 0 0 0 true k i b s ad len cap)) (by simp [results, Tryz.results22, go_sem]) rfl ⟨rfl, below2 w _ _⟩
set_option maxRecDepth 100000 in
set_option maxHeartbeats 1000000 in
theorem rpan_any (k m : Int) (w : World) :
    Calls Tryz.prog 25 #[.int .i64 k, .int .i64 m] w fun e w' => e = .returned (.agg (rErr 110 0 k m)) ∧ Below w.heap.size w w' := by
  go_enter Tryz.func25, Tryz.ntmps25
  go_wp2
  exact bodyPost_ret (v := .agg (rErr 110 0 k m)) (by simp [results, Tryz.results25, go_sem]) rfl ⟨rfl, below1 w _⟩
set_option maxRecDepth 100000 in
set_option maxHeartbeats 1000000 in
theorem rnum_any (x : Int) (w : World) :
    Calls Tryz.prog 28 #[.int .i64 x] w fun e w' => e = .returned (.agg #[.int .i64 1, .int .i64 x, .int .u64 0, .string ⟨#[]⟩, .slice none 0 0]) ∧ Below w.heap.size w w' := by
  go_enter Tryz.func28, Tryz.ntmps28
  go_wp2
  exact bodyPost_ret (v := .agg #[.int .i64 1, .int .i64 x, .int .u64 0, .string ⟨#[]⟩, .slice none 0 0]) (by simp [results, Tryz.results28, go_sem]) rfl ⟨rfl, below1 w _⟩
theorem rquo_any (x y : Int) (hy : y ≠ 0) (w : World) :
    Calls Tryz.prog 29 #[.int .i64 x, .int .i64 y] w fun e w' => e = .returned (.int .i64 (wrap64 (x.tdiv y))) ∧ w' = w := by
  by_cases h : y = -1
  · subst h
    go_enter Tryz.func29, Tryz.ntmps29
    go_wp2
    go_ret
    refine ⟨?_, rfl⟩
    simp
  · have h' : (y == -1) = false := by simpa using h
    go_enter Tryz.func29, Tryz.ntmps29
    go_wp2
    go_ret
    exact ⟨rfl, rfl⟩

set_option maxRecDepth 100000 in
set_option maxHeartbeats 1000000 in
theorem rkind_lo (k i b : Int) (s : ByteArray) (ad : Option Addr) (len cap : Nat) (n : Int) (w : World) (g0 : decide (n ≤ 0) = true) :
    Calls Tryz.prog 23 #[.agg #[.int .i64 k, .int .i64 i, .int .u64 b, .string s, .slice ad len cap], .int .i64 n] w fun e w' => e = .returned (.agg (rErr 110 0 2 k)) ∧ Below w.heap.size w w' := by
  have RP := Lib.hid rpan_any
  have B0 := below2 w (.cells #[.int .i64 k, .int .i64 i, .int .u64 b, .string s, .slice ad len cap] 25) (.cells (rErr 0 0 0 0) 35)
  have D0 : Bk ((w.alloc (.cells #[.int .i64 k, .int .i64 i, .int .u64 b, .string s, .slice ad len cap] 25)).alloc (.cells (rErr 0 0 0 0) 35)) w.heap.size #[.int .i64 k, .int .i64 i, .int .u64 b, .string s, .slice ad len cap] 25 := (Bk.new w _ _).alloc _
  have R0 := Bk.new2 w (.cells #[.int .i64 k, .int .i64 i, .int .u64 b, .string s, .slice ad len cap] 25) (rErr 0 0 0 0) 35
  go_enter Tryz.func23, Tryz.ntmps23
  go_wp2_with fail
  have BX := B0
  have RX := R0
  clear B0 R0 D0
  refine (RP.out 2 k _).mono ?_
  rintro e w2 ⟨rfl, b2⟩
  have r2 := RX.step b2
  have B2 := BX.trans (b2.mono BX.size)
  clear b2 BX RX
  obtain ⟨c0, c1, c2, c3, c4, c5, c6, c7, c8, c9⟩ := r2.c10
  have z2 := r2.f
  go_wp2_with fail
  obtain ⟨k1, k2, k3, k4⟩ := set10 r2 (.int .i64 110) (.int .i64 0) (.int .i64 2) (.int .i64 k) (.bool false) (.int .i64 0) (.int .i64 0) (.int .u64 0) (.string ⟨#[]⟩) (.slice none 0 0) rfl
  have KF := B2.trans (k4.mono (by omega))
  obtain ⟨q0, q1, q2, q3, q4, q5, q6, q7, q8, q9⟩ := k1.c10
  refine bodyPost_ret (v := .agg (rErr 110 0 2 k)) ?_ rfl ⟨rfl, KF⟩
  simp [results, Tryz.results23, go_sem, q0, q1, q2, q3, q4, q5, q6, q7, q8, q9]

set_option maxRecDepth 100000 in
set_option maxHeartbeats 1000000 in
theorem rkind_hi (k i b : Int) (s : ByteArray) (ad : Option Addr) (len cap : Nat) (n : Int) (w : World) (g0 : decide (n ≤ 0) = false) (g1 : decide (14 ≤ n) = true) :
    Calls Tryz.prog 23 #[.agg #[.int .i64 k, .int .i64 i, .int .u64 b, .string s, .slice ad len cap], .int .i64 n] w fun e w' => e = .returned (.agg (rErr 110 0 2 k)) ∧ Below w.heap.size w w' := by
  have RP := Lib.hid rpan_any
  have B0 := below2 w (.cells #[.int .i64 k, .int .i64 i, .int .u64 b, .string s, .slice ad len cap] 25) (.cells (rErr 0 0 0 0) 35)
  have D0 : Bk ((w.alloc (.cells #[.int .i64 k, .int .i64 i, .int .u64 b, .string s, .slice ad len cap] 25)).alloc (.cells (rErr 0 0 0 0) 35)) w.heap.size #[.int .i64 k, .int .i64 i, .int .u64 b, .string s, .slice ad len cap] 25 := (Bk.new w _ _).alloc _
  have R0 := Bk.new2 w (.cells #[.int .i64 k, .int .i64 i, .int .u64 b, .string s, .slice ad len cap] 25) (rErr 0 0 0 0) 35
  go_enter Tryz.func23, Tryz.ntmps23
  go_wp2_with fail
  have BX := B0
  have RX := R0
  clear B0 R0 D0
  refine (RP.out 2 k _).mono ?_
  rintro e w2 ⟨rfl, b2⟩
  have r2 := RX.step b2
  have B2 := BX.trans (b2.mono BX.size)
  clear b2 BX RX
  obtain ⟨c0, c1, c2, c3, c4, c5, c6, c7, c8, c9⟩ := r2.c10
  have z2 := r2.f
  go_wp2_with fail
  obtain ⟨k1, k2, k3, k4⟩ := set10 r2 (.int .i64 110) (.int .i64 0) (.int .i64 2) (.int .i64 k) (.bool false) (.int .i64 0) (.int .i64 0) (.int .u64 0) (.string ⟨#[]⟩) (.slice none 0 0) rfl
  have KF := B2.trans (k4.mono (by omega))
  obtain ⟨q0, q1, q2, q3, q4, q5, q6, q7, q8, q9⟩ := k1.c10
  refine bodyPost_ret (v := .agg (rErr 110 0 2 k)) ?_ rfl ⟨rfl, KF⟩
  simp [results, Tryz.results23, go_sem, q0, q1, q2, q3, q4, q5, q6, q7, q8, q9]

set_option maxRecDepth 100000 in
set_option maxHeartbeats 1000000 in
theorem rkind_no (k i b : Int) (s : ByteArray) (ad : Option Addr) (len cap : Nat) (n : Int) (w : World) (g0 : decide (n ≤ 0) = false) (g1 : decide (14 ≤ n) = false)
    (hm : ∀ wx, Below w.heap.size w wx → Calls Tryz.prog 18 #[.agg #[.int .i64 2, .int .i64 n, .slice none 0 0], .agg #[.int .i64 k, .int .i64 i, .int .u64 b, .string s, .slice ad len cap]] wx fun e w' => e = .returned (.bool false) ∧ Below wx.heap.size wx w') :
    Calls Tryz.prog 23 #[.agg #[.int .i64 k, .int .i64 i, .int .u64 b, .string s, .slice ad len cap], .int .i64 n] w fun e w' => e = .returned (.agg (rErr 110 0 2 k)) ∧ Below w.heap.size w w' := by
  have RP := Lib.hid rpan_any
  have HM := Lib.hid hm
  clear hm
  have B0 := below2 w (.cells #[.int .i64 k, .int .i64 i, .int .u64 b, .string s, .slice ad len cap] 25) (.cells (rErr 0 0 0 0) 35)
  have D0 : Bk ((w.alloc (.cells #[.int .i64 k, .int .i64 i, .int .u64 b, .string s, .slice ad len cap] 25)).alloc (.cells (rErr 0 0 0 0) 35)) w.heap.size #[.int .i64 k, .int .i64 i, .int .u64 b, .string s, .slice ad len cap] 25 := (Bk.new w _ _).alloc _
  have R0 := Bk.new2 w (.cells #[.int .i64 k, .int .i64 i, .int .u64 b, .string s, .slice ad len cap] 25) (rErr 0 0 0 0) 35
  go_enter Tryz.func23, Tryz.ntmps23
  go_wp2_with fail
  refine (HM.out _ B0).mono ?_
  rintro e w1 ⟨rfl, b1⟩
  have D1 := D0.step b1
  have RX := R0.step b1
  have BX := B0.trans (b1.mono B0.size)
  clear b1 B0 R0 D0
  obtain ⟨d0, d1, d2, d3, d4⟩ := D1.c5
  go_wp2_with fail
  clear D1 d0 d1 d2 d3 d4
  refine (RP.out 2 k _).mono ?_
  rintro e w2 ⟨rfl, b2⟩
  have r2 := RX.step b2
  have B2 := BX.trans (b2.mono BX.size)
  clear b2 BX RX
  obtain ⟨c0, c1, c2, c3, c4, c5, c6, c7, c8, c9⟩ := r2.c10
  have z2 := r2.f
  go_wp2_with fail
  obtain ⟨k1, k2, k3, k4⟩ := set10 r2 (.int .i64 110) (.int .i64 0) (.int .i64 2) (.int .i64 k) (.bool false) (.int .i64 0) (.int .i64 0) (.int .u64 0) (.string ⟨#[]⟩) (.slice none 0 0) rfl
  have KF := B2.trans (k4.mono (by omega))
  obtain ⟨q0, q1, q2, q3, q4, q5, q6, q7, q8, q9⟩ := k1.c10
  refine bodyPost_ret (v := .agg (rErr 110 0 2 k)) ?_ rfl ⟨rfl, KF⟩
  simp [results, Tryz.results23, go_sem, q0, q1, q2, q3, q4, q5, q6, q7, q8, q9]

set_option maxRecDepth 100000 in
set_option maxHeartbeats 1000000 in
theorem rkind_yes (k i b : Int) (s : ByteArray) (ad : Option Addr) (len cap : Nat) (n : Int) (w : World) (H : Nat) (hH : w.heap.size + 2 ≤ H) (P : BodyP) (hP : St H P) (g0 : decide (n ≤ 0) = false) (g1 : decide (14 ≤ n) = false)
    (hm : ∀ wx, Below w.heap.size w wx → Calls Tryz.prog 18 #[.agg #[.int .i64 2, .int .i64 n, .slice none 0 0], .agg #[.int .i64 k, .int .i64 i, .int .u64 b, .string s, .slice ad len cap]] wx fun e w' => e = .returned (.bool true) ∧ Below wx.heap.size wx w')
    (hC : ∀ wx, Below w.heap.size w wx → w.heap.size + 2 ≤ wx.heap.size → Calls Tryz.prog 9 #[.agg #[.int .i64 k, .int .i64 i, .int .u64 b, .string s, .slice ad len cap]] wx fun e w' => ∃ k i u s a n c, e = .returned (.agg #[.int .i64 k, .int .i64 i, .int .u64 u, .string s, .slice a n c]) ∧ P k i u s a n c w' ∧ Below wx.heap.size wx w') :
    Calls Tryz.prog 23 #[.agg #[.int .i64 k, .int .i64 i, .int .u64 b, .string s, .slice ad len cap], .int .i64 n] w fun e w' => ∃ k i u s a n c, e = .returned (.agg (rcs 0 0 0 0 true k i u s a n c)) ∧ P k i u s a n c w' ∧ Below w.heap.size w w' := by
  have RG := Lib.hid rgave_any
  have HM := Lib.hid hm
  have HC := Lib.hid hC
  have hP' := Lib.hid hP
  clear hm hC hP
  have B0 := below2 w (.cells #[.int .i64 k, .int .i64 i, .int .u64 b, .string s, .slice ad len cap] 25) (.cells (rErr 0 0 0 0) 35)
  have D0 : Bk ((w.alloc (.cells #[.int .i64 k, .int .i64 i, .int .u64 b, .string s, .slice ad len cap] 25)).alloc (.cells (rErr 0 0 0 0) 35)) w.heap.size #[.int .i64 k, .int .i64 i, .int .u64 b, .string s, .slice ad len cap] 25 := (Bk.new w _ _).alloc _
  have R0 := Bk.new2 w (.cells #[.int .i64 k, .int .i64 i, .int .u64 b, .string s, .slice ad len cap] 25) (rErr 0 0 0 0) 35
  go_enter Tryz.func23, Tryz.ntmps23
  go_wp2_with fail
  refine (HM.out _ B0).mono ?_
  rintro e w1 ⟨rfl, b1⟩
  have D1 := D0.step b1
  have RX := R0.step b1
  have BX := B0.trans (b1.mono B0.size)
  have hsX : w.heap.size + 2 ≤ w1.heap.size := by have := b1.size; simpa using this
  clear b1 B0 R0 D0
  obtain ⟨d0, d1, d2, d3, d4⟩ := D1.c5
  go_wp2_with fail
  refine (HC.out _ BX hsX).mono ?_
  rintro e w3 ⟨k', i', u', s', a', n', c', rfl, p3, b3⟩
  have R3 := RX.step b3
  have B3 := BX.trans (b3.mono BX.size)
  have P3 := Lib.hid p3
  clear p3 b3 BX RX D1 d0 d1 d2 d3 d4
  go_wp2_with fail
  refine (RG.out _ _ _ _ _ _ _ _).mono ?_
  rintro e w4 ⟨rfl, b4⟩
  have r2 := R3.step b4
  have B2 := B3.trans (b4.mono B3.size)
  have PP := Lib.hid (hP'.out.below P3.out b4)
  clear b4 B3 R3 P3
  obtain ⟨c0, c1, c2, c3, c4, c5, c6, c7, c8, c9⟩ := r2.c10
  have z2 := r2.f
  go_wp2_with fail
  obtain ⟨k1, k2, k3, k4⟩ := set10 r2 (.int .i64 0) (.int .i64 0) (.int .i64 0) (.int .i64 0) (.bool true) (.int .i64 k') (.int .i64 i') (.int .u64 u') (.string s') (.slice a' n' c') rfl
  have KP := Lib.hid (hP'.out _ _ _ _ _ _ _ _ _ PP.out (Nat.le_of_eq k2.symm) fun g hg _ => k3 g (by omega))
  have KF := B2.trans (k4.mono (by omega))
  obtain ⟨q0, q1, q2, q3, q4, q5, q6, q7, q8, q9⟩ := k1.c10
  refine bodyPost_ret (v := .agg (rcs 0 0 0 0 true k' i' u' s' a' n' c')) ?_ rfl ⟨k', i', u', s', a', n', c', rfl, KP.out, KF⟩
  simp [results, Tryz.results23, go_sem, q0, q1, q2, q3, q4, q5, q6, q7, q8, q9]

set_option maxRecDepth 100000 in
set_option maxHeartbeats 1000000 in
theorem rface_nil (k i b : Int) (s : ByteArray) (ad : Option Addr) (len cap : Nat) (f : Int) (w : World) (hk : k = 0) :
    Calls Tryz.prog 24 #[.agg #[.int .i64 k, .int .i64 i, .int .u64 b, .string s, .slice ad len cap], .int .i64 f] w fun e w' => e = .returned (.agg (rErr 110 0 2 (-1))) ∧ Below w.heap.size w w' := by
  have RP := Lib.hid rpan_any
  subst hk
  have B0 := below2 w (.cells #[.int .i64 0, .int .i64 i, .int .u64 b, .string s, .slice ad len cap] 25) (.cells (rErr 0 0 0 0) 35)
  have D0 : Bk ((w.alloc (.cells #[.int .i64 0, .int .i64 i, .int .u64 b, .string s, .slice ad len cap] 25)).alloc (.cells (rErr 0 0 0 0) 35)) w.heap.size #[.int .i64 0, .int .i64 i, .int .u64 b, .string s, .slice ad len cap] 25 := (Bk.new w _ _).alloc _
  have R0 := Bk.new2 w (.cells #[.int .i64 0, .int .i64 i, .int .u64 b, .string s, .slice ad len cap] 25) (rErr 0 0 0 0) 35
  go_enter Tryz.func24, Tryz.ntmps24
  go_wp2_with fail
  have BX := B0
  have RX := R0
  clear B0 R0 D0
  refine (RP.out 2 (-1) _).mono ?_
  rintro e w2 ⟨rfl, b2⟩
  have r2 := RX.step b2
  have B2 := BX.trans (b2.mono BX.size)
  clear b2 BX RX
  obtain ⟨c0, c1, c2, c3, c4, c5, c6, c7, c8, c9⟩ := r2.c10
  have z2 := r2.f
  go_wp2_with fail
  obtain ⟨k1, k2, k3, k4⟩ := set10 r2 (.int .i64 110) (.int .i64 0) (.int .i64 2) (.int .i64 (-1)) (.bool false) (.int .i64 0) (.int .i64 0) (.int .u64 0) (.string ⟨#[]⟩) (.slice none 0 0) rfl
  have KF := B2.trans (k4.mono (by omega))
  obtain ⟨q0, q1, q2, q3, q4, q5, q6, q7, q8, q9⟩ := k1.c10
  refine bodyPost_ret (v := .agg (rErr 110 0 2 (-1))) ?_ rfl ⟨rfl, KF⟩
  simp [results, Tryz.results24, go_sem, q0, q1, q2, q3, q4, q5, q6, q7, q8, q9]

set_option maxRecDepth 100000 in
set_option maxHeartbeats 1000000 in
theorem rface_lo (k i b : Int) (s : ByteArray) (ad : Option Addr) (len cap : Nat) (f : Int) (w : World) (hk : (k == 0) = false) (g0 : decide (f < 0) = true) :
    Calls Tryz.prog 24 #[.agg #[.int .i64 k, .int .i64 i, .int .u64 b, .string s, .slice ad len cap], .int .i64 f] w fun e w' => e = .returned (.agg (rErr 110 0 2 (-1))) ∧ Below w.heap.size w w' := by
  have RP := Lib.hid rpan_any
  have B0 := below2 w (.cells #[.int .i64 k, .int .i64 i, .int .u64 b, .string s, .slice ad len cap] 25) (.cells (rErr 0 0 0 0) 35)
  have D0 : Bk ((w.alloc (.cells #[.int .i64 k, .int .i64 i, .int .u64 b, .string s, .slice ad len cap] 25)).alloc (.cells (rErr 0 0 0 0) 35)) w.heap.size #[.int .i64 k, .int .i64 i, .int .u64 b, .string s, .slice ad len cap] 25 := (Bk.new w _ _).alloc _
  have R0 := Bk.new2 w (.cells #[.int .i64 k, .int .i64 i, .int .u64 b, .string s, .slice ad len cap] 25) (rErr 0 0 0 0) 35
  go_enter Tryz.func24, Tryz.ntmps24
  go_wp2_with fail
  have BX := B0
  have RX := R0
  clear B0 R0 D0
  refine (RP.out 2 (-1) _).mono ?_
  rintro e w2 ⟨rfl, b2⟩
  have r2 := RX.step b2
  have B2 := BX.trans (b2.mono BX.size)
  clear b2 BX RX
  obtain ⟨c0, c1, c2, c3, c4, c5, c6, c7, c8, c9⟩ := r2.c10
  have z2 := r2.f
  go_wp2_with fail
  obtain ⟨k1, k2, k3, k4⟩ := set10 r2 (.int .i64 110) (.int .i64 0) (.int .i64 2) (.int .i64 (-1)) (.bool false) (.int .i64 0) (.int .i64 0) (.int .u64 0) (.string ⟨#[]⟩) (.slice none 0 0) rfl
  have KF := B2.trans (k4.mono (by omega))
  obtain ⟨q0, q1, q2, q3, q4, q5, q6, q7, q8, q9⟩ := k1.c10
  refine bodyPost_ret (v := .agg (rErr 110 0 2 (-1))) ?_ rfl ⟨rfl, KF⟩
  simp [results, Tryz.results24, go_sem, q0, q1, q2, q3, q4, q5, q6, q7, q8, q9]

set_option maxRecDepth 100000 in
set_option maxHeartbeats 1000000 in
theorem rface_hi (k i b : Int) (s : ByteArray) (ad : Option Addr) (len cap : Nat) (f : Int) (w : World) (hk : (k == 0) = false) (g0 : decide (f < 0) = false) (g1 : decide (10 ≤ f) = true) :
    Calls Tryz.prog 24 #[.agg #[.int .i64 k, .int .i64 i, .int .u64 b, .string s, .slice ad len cap], .int .i64 f] w fun e w' => e = .returned (.agg (rErr 110 0 2 (-1))) ∧ Below w.heap.size w w' := by
  have RP := Lib.hid rpan_any
  have B0 := below2 w (.cells #[.int .i64 k, .int .i64 i, .int .u64 b, .string s, .slice ad len cap] 25) (.cells (rErr 0 0 0 0) 35)
  have D0 : Bk ((w.alloc (.cells #[.int .i64 k, .int .i64 i, .int .u64 b, .string s, .slice ad len cap] 25)).alloc (.cells (rErr 0 0 0 0) 35)) w.heap.size #[.int .i64 k, .int .i64 i, .int .u64 b, .string s, .slice ad len cap] 25 := (Bk.new w _ _).alloc _
  have R0 := Bk.new2 w (.cells #[.int .i64 k, .int .i64 i, .int .u64 b, .string s, .slice ad len cap] 25) (rErr 0 0 0 0) 35
  go_enter Tryz.func24, Tryz.ntmps24
  go_wp2_with fail
  have BX := B0
  have RX := R0
  clear B0 R0 D0
  refine (RP.out 2 (-1) _).mono ?_
  rintro e w2 ⟨rfl, b2⟩
  have r2 := RX.step b2
  have B2 := BX.trans (b2.mono BX.size)
  clear b2 BX RX
  obtain ⟨c0, c1, c2, c3, c4, c5, c6, c7, c8, c9⟩ := r2.c10
  have z2 := r2.f
  go_wp2_with fail
  obtain ⟨k1, k2, k3, k4⟩ := set10 r2 (.int .i64 110) (.int .i64 0) (.int .i64 2) (.int .i64 (-1)) (.bool false) (.int .i64 0) (.int .i64 0) (.int .u64 0) (.string ⟨#[]⟩) (.slice none 0 0) rfl
  have KF := B2.trans (k4.mono (by omega))
  obtain ⟨q0, q1, q2, q3, q4, q5, q6, q7, q8, q9⟩ := k1.c10
  refine bodyPost_ret (v := .agg (rErr 110 0 2 (-1))) ?_ rfl ⟨rfl, KF⟩
  simp [results, Tryz.results24, go_sem, q0, q1, q2, q3, q4, q5, q6, q7, q8, q9]

set_option maxRecDepth 100000 in
set_option maxHeartbeats 1000000 in
theorem rface_no (k i b : Int) (s : ByteArray) (ad : Option Addr) (len cap : Nat) (f : Int) (w : World) (hk : (k == 0) = false) (g0 : decide (f < 0) = false) (g1 : decide (10 ≤ f) = false) (L : Int) (hL : lacks k f = L) (hl : decide (0 ≤ L) = true) :
    Calls Tryz.prog 24 #[.agg #[.int .i64 k, .int .i64 i, .int .u64 b, .string s, .slice ad len cap], .int .i64 f] w fun e w' => e = .returned (.agg (rErr 110 0 2 L)) ∧ Below w.heap.size w w' := by
  have RP := Lib.hid rpan_any
  have HL : Hid (∀ w, Calls Tryz.prog 47 #[.int .i64 k, .int .i64 f] w fun e w' => e = .returned (.int .i64 L) ∧ Below w.heap.size w w') := fun w => hL ▸ lacks_any k f w
  clear hL
  have B0 := below2 w (.cells #[.int .i64 k, .int .i64 i, .int .u64 b, .string s, .slice ad len cap] 25) (.cells (rErr 0 0 0 0) 35)
  have D0 : Bk ((w.alloc (.cells #[.int .i64 k, .int .i64 i, .int .u64 b, .string s, .slice ad len cap] 25)).alloc (.cells (rErr 0 0 0 0) 35)) w.heap.size #[.int .i64 k, .int .i64 i, .int .u64 b, .string s, .slice ad len cap] 25 := (Bk.new w _ _).alloc _
  have R0 := Bk.new2 w (.cells #[.int .i64 k, .int .i64 i, .int .u64 b, .string s, .slice ad len cap] 25) (rErr 0 0 0 0) 35
  go_enter Tryz.func24, Tryz.ntmps24
  go_wp2_with fail
  refine (HL.out _).mono ?_
  rintro e w1 ⟨rfl, b1⟩
  have D1 := D0.step b1
  have RX := R0.step b1
  have BX := B0.trans (b1.mono B0.size)
  clear b1 B0 R0 D0
  obtain ⟨d0, d1, d2, d3, d4⟩ := D1.c5
  go_wp2_with fail
  clear D1 d0 d1 d2 d3 d4
  refine (RP.out 2 L _).mono ?_
  rintro e w2 ⟨rfl, b2⟩
  have r2 := RX.step b2
  have B2 := BX.trans (b2.mono BX.size)
  clear b2 BX RX
  obtain ⟨c0, c1, c2, c3, c4, c5, c6, c7, c8, c9⟩ := r2.c10
  have z2 := r2.f
  go_wp2_with fail
  obtain ⟨k1, k2, k3, k4⟩ := set10 r2 (.int .i64 110) (.int .i64 0) (.int .i64 2) (.int .i64 L) (.bool false) (.int .i64 0) (.int .i64 0) (.int .u64 0) (.string ⟨#[]⟩) (.slice none 0 0) rfl
  have KF := B2.trans (k4.mono (by omega))
  obtain ⟨q0, q1, q2, q3, q4, q5, q6, q7, q8, q9⟩ := k1.c10
  refine bodyPost_ret (v := .agg (rErr 110 0 2 L)) ?_ rfl ⟨rfl, KF⟩
  simp [results, Tryz.results24, go_sem, q0, q1, q2, q3, q4, q5, q6, q7, q8, q9]

set_option maxRecDepth 100000 in
set_option maxHeartbeats 1000000 in
theorem rface_yes (k i b : Int) (s : ByteArray) (ad : Option Addr) (len cap : Nat) (f : Int) (w : World) (H : Nat) (hH : w.heap.size + 2 ≤ H) (P : BodyP) (hP : St H P) (hk : (k == 0) = false) (g0 : decide (f < 0) = false) (g1 : decide (10 ≤ f) = false) (hL : lacks k f = -1)
    (hC : ∀ wx, Below w.heap.size w wx → w.heap.size + 2 ≤ wx.heap.size → Calls Tryz.prog 9 #[.agg #[.int .i64 k, .int .i64 i, .int .u64 b, .string s, .slice ad len cap]] wx fun e w' => ∃ k i u s a n c, e = .returned (.agg #[.int .i64 k, .int .i64 i, .int .u64 u, .string s, .slice a n c]) ∧ P k i u s a n c w' ∧ Below wx.heap.size wx w') :
    Calls Tryz.prog 24 #[.agg #[.int .i64 k, .int .i64 i, .int .u64 b, .string s, .slice ad len cap], .int .i64 f] w fun e w' => ∃ k i u s a n c, e = .returned (.agg (rcs 0 0 0 0 true k i u s a n c)) ∧ P k i u s a n c w' ∧ Below w.heap.size w w' := by
  have RG := Lib.hid rgave_any
  have HL : Hid (∀ w, Calls Tryz.prog 47 #[.int .i64 k, .int .i64 f] w fun e w' => e = .returned (.int .i64 (-1)) ∧ Below w.heap.size w w') := fun w => hL ▸ lacks_any k f w
  have HC := Lib.hid hC
  have hP' := Lib.hid hP
  clear hC hP hL
  have B0 := below2 w (.cells #[.int .i64 k, .int .i64 i, .int .u64 b, .string s, .slice ad len cap] 25) (.cells (rErr 0 0 0 0) 35)
  have D0 : Bk ((w.alloc (.cells #[.int .i64 k, .int .i64 i, .int .u64 b, .string s, .slice ad len cap] 25)).alloc (.cells (rErr 0 0 0 0) 35)) w.heap.size #[.int .i64 k, .int .i64 i, .int .u64 b, .string s, .slice ad len cap] 25 := (Bk.new w _ _).alloc _
  have R0 := Bk.new2 w (.cells #[.int .i64 k, .int .i64 i, .int .u64 b, .string s, .slice ad len cap] 25) (rErr 0 0 0 0) 35
  go_enter Tryz.func24, Tryz.ntmps24
  go_wp2_with fail
  refine (HL.out _).mono ?_
  rintro e w1 ⟨rfl, b1⟩
  have D1 := D0.step b1
  have RX := R0.step b1
  have BX := B0.trans (b1.mono B0.size)
  have hsX : w.heap.size + 2 ≤ w1.heap.size := by have := b1.size; simpa using this
  clear b1 B0 R0 D0
  obtain ⟨d0, d1, d2, d3, d4⟩ := D1.c5
  go_wp2_with fail
  refine (HC.out _ BX hsX).mono ?_
  rintro e w3 ⟨k', i', u', s', a', n', c', rfl, p3, b3⟩
  have R3 := RX.step b3
  have B3 := BX.trans (b3.mono BX.size)
  have P3 := Lib.hid p3
  clear p3 b3 BX RX D1 d0 d1 d2 d3 d4
  go_wp2_with fail
  refine (RG.out _ _ _ _ _ _ _ _).mono ?_
  rintro e w4 ⟨rfl, b4⟩
  have r2 := R3.step b4
  have B2 := B3.trans (b4.mono B3.size)
  have PP := Lib.hid (hP'.out.below P3.out b4)
  clear b4 B3 R3 P3
  obtain ⟨c0, c1, c2, c3, c4, c5, c6, c7, c8, c9⟩ := r2.c10
  have z2 := r2.f
  go_wp2_with fail
  obtain ⟨k1, k2, k3, k4⟩ := set10 r2 (.int .i64 0) (.int .i64 0) (.int .i64 0) (.int .i64 0) (.bool true) (.int .i64 k') (.int .i64 i') (.int .u64 u') (.string s') (.slice a' n' c') rfl
  have KP := Lib.hid (hP'.out _ _ _ _ _ _ _ _ _ PP.out (Nat.le_of_eq k2.symm) fun g hg _ => k3 g (by omega))
  have KF := B2.trans (k4.mono (by omega))
  obtain ⟨q0, q1, q2, q3, q4, q5, q6, q7, q8, q9⟩ := k1.c10
  refine bodyPost_ret (v := .agg (rcs 0 0 0 0 true k' i' u' s' a' n' c')) ?_ rfl ⟨k', i', u', s', a', n', c', rfl, KP.out, KF⟩
  simp [results, Tryz.results24, go_sem, q0, q1, q2, q3, q4, q5, q6, q7, q8, q9]
end Go.Proofs.YthamafijjflfbaaGreat
