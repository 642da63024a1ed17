/- Rows of records in memory, requests that wait, what is fit; no condition but those that each theorem names. -/
import Derived.Test.YtgghppojjhnbeaaUa
import Derived.Deep.AppendLies
import Derived.Deep.AppendSrc
import Derived.Deep.Upon
namespace Go.Proofs.Ytgghppojjhnbeaa
open Go.RowKit

def flk {α : Type} (cl : α → List Value) (l : List α) : List Value := l.flatMap cl
theorem flk_len {α : Type} {cl : α → List Value} {K : Nat} (hK : ∀ x, (cl x).length = K) (l : List α) : (flk cl l).length = l.length * K := by
  induction l with
  | nil => simp [flk]
  | cons x r ih =>
    have e : flk cl (x :: r) = cl x ++ flk cl r := rfl
    rw [e, List.length_append, ih, hK, List.length_cons, Nat.add_mul]; omega
theorem flk_app {α : Type} (cl : α → List Value) (l m : List α) : flk cl (l ++ m) = flk cl l ++ flk cl m := List.flatMap_append
theorem flk_at {α : Type} {cl : α → List Value} {K : Nat} (hK : ∀ x, (cl x).length = K) : ∀ (l : List α) (j q : Nat) (x : α), l[j]? = some x → q < K → (flk cl l)[j * K + q]? = (cl x)[q]?
  | [], j, q, x, h, _ => by simp at h
  | y :: r, 0, q, x, h, hq => by
    simp only [List.getElem?_cons_zero, Option.some.injEq] at h
    subst h
    show (cl y ++ flk cl r)[0 * K + q]? = _
    rw [Nat.zero_mul, Nat.zero_add, List.getElem?_append_left (by rw [hK]; exact hq)]
  | y :: r, j + 1, q, x, h, hq => by
    show (cl y ++ flk cl r)[(j + 1) * K + q]? = _
    have e : (j + 1) * K + q = K + (j * K + q) := by rw [Nat.add_mul]; omega
    rw [e, List.getElem?_append_right (by rw [hK]; omega), hK, show K + (j * K + q) - K = j * K + q by omega]
    exact flk_at hK r j q x (by simpa using h) hq
theorem flk_one {α : Type} {cl : α → List Value} (h1 : ∀ x, ∀ u ∈ cl x, u.oneCell' = true) (l : List α) : ∀ u ∈ flk cl l, u.oneCell' = true := fun u hu => by
  obtain ⟨x, -, hx⟩ := List.mem_flatMap.1 hu
  exact h1 x u hx

/-- A slice of records. -/
def Rk {α : Type} (cl : α → List Value) (K : Nat) (w : World) (sv : Value) (l : List α) : Prop :=
  ∃ ad cap, sv = .slice ad l.length cap ∧ (l = [] ∨ ∃ b o, ad = some ⟨b, o, none⟩ ∧ ∀ (j : Nat) x, l[j]? = some x → ∀ (q : Nat) v, (cl x)[q]? = some v → w.cell? ⟨b, o + j * K + q, none⟩ = some v)
theorem Rk.below {α : Type} {cl : α → List Value} {K : Nat} {w w' : World} {sv : Value} {l : List α} (h : Rk cl K w sv l) (hb : Below w.heap.size w w') : Rk cl K w' sv l := by
  obtain ⟨ad, cap, e, h⟩ := h
  refine ⟨ad, cap, e, ?_⟩
  rcases h with h | ⟨b, o, e2, h⟩
  · exact .inl h
  · exact .inr ⟨b, o, e2, fun j x hj q v hv => by
      have h9 := h j x hj q v hv
      exact (hb.cell (p := ⟨b, _, none⟩) (World.block_lt_of_cell? w _ h9)).trans h9⟩
theorem Rk.at {α : Type} {cl : α → List Value} {K : Nat} {w : World} {sv : Value} {l : List α} (h : Rk cl K w sv l) (hl : 0 < l.length) : ∃ b o cap, sv = .slice (some ⟨b, o, none⟩) l.length cap ∧ ∀ (j : Nat) x, l[j]? = some x → ∀ (q : Nat) v, (cl x)[q]? = some v → w.cell? ⟨b, o + j * K + q, none⟩ = some v := by
  obtain ⟨ad, cap, e, h⟩ := h
  rcases h with h | ⟨b, o, e2, h⟩
  · subst h; simp at hl
  · subst e2; exact ⟨b, o, cap, e, h⟩
theorem own_rk {α : Type} {cl : α → List Value} {K : Nat} (hK : ∀ x, (cl x).length = K) {w : World} {B : Nat} {T : TypeId} {sv : Value} {l : List α} (h : w.ownsRow B T K sv l.length (flk cl l)) : Rk cl K w sv l := by
  obtain ⟨hl, ⟨rfl, h0⟩ | ⟨g, cap, cur, rfl, hb, hh, hc, hm, hs, ht⟩⟩ := h
  · obtain rfl : l = [] := List.eq_nil_of_length_eq_zero h0
    exact ⟨none, 0, rfl, .inl rfl⟩
  · refine ⟨_, cap, rfl, .inr ⟨g, 0, rfl, fun j x hj q v hv => ?_⟩⟩
    have hq : q < K := by rw [← hK x]; exact (List.getElem?_eq_some_iff.1 hv).1
    have h9 := flk_at hK l j q x hj hq
    rw [← ht, List.getElem?_take] at h9
    have hjl := (List.getElem?_eq_some_iff.1 hj).1
    have hlt : j * K + q < l.length * K := by
      have : (j + 1) * K ≤ l.length * K := Nat.mul_le_mul_right _ hjl
      rw [Nat.add_mul] at this
      omega
    rw [if_pos hlt, Array.getElem?_toList] at h9
    rw [Nat.zero_add]
    simp only [World.cell?, hh]
    rw [h9]
    exact hv
theorem new_cells (w : World) (cs : Array Value) (T : TypeId) : ∀ (j : Nat) u, cs.toList[j]? = some u → (w.alloc (.cells cs T)).cell? ((⟨w.heap.size, 0, none⟩ : Addr).add j) = some u := fun j u hu => by
  have e : (⟨w.heap.size, 0, none⟩ : Addr).add j = ⟨w.heap.size, j, none⟩ := by unfold Addr.add; split <;> simp_all
  rw [e, (Bk.new w cs T).c j, ← Array.getElem?_toList]
  exact hu


/-- A request that waits. -/
structure Ak where
  co : Int
  un : Int
  tp : ByteArray
abbrev Ak.cs (x : Ak) : Array Value := #[.int .i64 x.co, .int .i64 x.un, .string x.tp]
abbrev Ak.cl (x : Ak) : List Value := x.cs.toList
theorem Ak.len (x : Ak) : x.cl.length = 3 := rfl
theorem Ak.one (x : Ak) : ∀ u ∈ x.cl, u.oneCell' = true := fun u hu => by
  simp at hu
  rcases hu with rfl | rfl | rfl <;> rfl
abbrev Al (w : World) (sv : Value) (L : List Ak) : Prop := Rk Ak.cl 3 w sv L
theorem infoAk : (Try.prog.info? 41).map (fun i => (i.zero, i.size, i.bytes)) = some (some (.agg #[.int .i64 0, .int .i64 0, .string ⟨#[]⟩]), 3, 32) := by kernel_rfl
theorem a3 {w : World} {b o : Nat} {x : Ak} (h : ∀ (q : Nat) v, x.cl[q]? = some v → w.cell? ⟨b, o + q, none⟩ = some v) : w.cell? ⟨b, o, none⟩ = some (.int .i64 x.co) ∧ w.cell? ⟨b, o + 1, none⟩ = some (.int .i64 x.un) ∧ w.cell? ⟨b, o + 2, none⟩ = some (.string x.tp) :=
  ⟨h 0 _ rfl, h 1 _ rfl, h 2 _ rfl⟩
/-- What of a request is fit behind one of the number l. -/
def fit1 (nx l : Int) (a : Ak) : Bool := decide (l < a.co) && decide (a.co ≤ nx) && decide (0 ≤ a.un) && decide (a.un ≤ 1099511627776)
def fitL (nx : Int) : Int → List Ak → Bool
  | _, [] => true
  | l, a :: r => fit1 nx l a && fitL nx a.co r
def lstC : Int → List Ak → Int
  | l, [] => l
  | _, a :: r => lstC a.co r
def lastC (L : List Ak) : Int := lstC 0 L
def fitS (nx : Int) (L : List Ak) : Bool := decide (0 ≤ nx) && decide (nx ≤ 4611686018427387904) && decide (L.length ≤ 1024) && fitL nx 0 L
theorem fitL_app (nx : Int) : ∀ (l : Int) (A B : List Ak), fitL nx l (A ++ B) = (fitL nx l A && fitL nx (lstC l A) B)
  | l, [], B => by simp [fitL, lstC]
  | l, a :: r, B => by simp only [List.cons_append, fitL, fitL_app nx a.co r B, Bool.and_assoc, lstC]
theorem lstC_app : ∀ (l : Int) (A B : List Ak), lstC l (A ++ B) = lstC (lstC l A) B
  | l, [], B => rfl
  | l, a :: r, B => by simp only [List.cons_append, lstC, lstC_app a.co r B]
theorem fitL_take (nx : Int) (L : List Ak) (j : Nat) (a : Ak) (hj : L[j]? = some a) : fitL nx 0 (L.take (j + 1)) = (fitL nx 0 (L.take j) && fit1 nx (lastC (L.take j)) a) := by
  rw [List.take_add_one, hj]
  show fitL nx 0 (L.take j ++ [a]) = _
  rw [fitL_app]
  simp [fitL, lastC]
theorem lastC_take (L : List Ak) (j : Nat) (a : Ak) (hj : L[j]? = some a) : lastC (L.take (j + 1)) = a.co := by
  rw [List.take_add_one, hj]
  show lstC 0 (L.take j ++ [a]) = _
  rw [lstC_app]
  rfl
theorem fitL_no (nx : Int) (L : List Ak) (j : Nat) (h : fitL nx 0 (L.take j) = false) : fitL nx 0 L = false := by
  rw [← List.take_append_drop j L, fitL_app, h]
  rfl

set_option maxRecDepth 100000 in
set_option maxHeartbeats 4000000 in
theorem fit_any (nx : Int) (sv : Value) (L : List Ak) (w : World) (h : Al w sv L) (hl : L.length ≤ 9223372036854775807) :
    Calls Try.prog 5 #[.agg #[.int .i64 nx, sv]] w fun e w' => e = .returned (.bool (fitS nx L)) ∧ Below w.heap.size w w' := by
  have HA := Lib.hid h
  obtain ⟨ad, cap, rfl, -⟩ := h
  have b0 := below1 w (.cells #[.int .i64 nx, .slice ad L.length cap] 24)
  have n0 := Bk.new w #[.int .i64 nx, .slice ad L.length cap] 24
  obtain ⟨w0, hw0⟩ : ∃ w0, w0 = w.alloc (.cells #[.int .i64 nx, .slice ad L.length cap] 24) := ⟨_, rfl⟩
  rw [← hw0] at b0 n0
  have HW := Lib.hid hw0.symm
  obtain ⟨c0, c1⟩ := n0.c2
  have HN := Lib.hid n0
  clear hw0 n0
  by_cases h1 : nx < 0
  · have e : fitS nx L = false := by unfold fitS; rw [decide_eq_false (by omega : ¬ 0 ≤ nx)]; rfl
    rw [e]
    go_enter Try.func5, Try.ntmps5
    go_wp2_with (rw [HW.out])
    go_ret
    exact ⟨rfl, b0⟩
  · by_cases h2 : nx ≤ 4611686018427387904
    · by_cases h3 : L.length ≤ 1024
      · have hfs : fitS nx L = fitL nx 0 L := by unfold fitS; rw [decide_eq_true (by omega : 0 ≤ nx), decide_eq_true h2, decide_eq_true h3]; rfl
        have h1' : decide (nx < 0) = false := decide_eq_false h1
        have h2' : decide (4611686018427387904 < nx) = false := decide_eq_false (by omega)
        have h3' : ¬ 1024 < (L.length : Int) := by omega
        rw [hfs]
        clear hfs
        go_enter Try.func5, Try.ntmps5
        go_wp2_with (rw [HW.out])
        go_loopg [3, 23] L.length (fun g s3 s23 wx => ∃ j : Nat, j + g = L.length ∧ s23 = .int .i64 j ∧ s3 = .int .i64 (lastC (L.take j)) ∧ fitL nx 0 (L.take j) = true ∧ Below w0.heap.size w0 wx)
        case atStart => exact ⟨0, by omega, rfl, rfl, rfl, Below.refl _ _⟩
        case round =>
          clear c0 c1
          obtain ⟨j, hjg, rfl, rfl, hf, hB⟩ := hrel
          have HF := Lib.hid hf
          clear hf
          cases gk with
          | zero =>
            obtain rfl : j = L.length := by omega
            rw [List.take_length] at HF ⊢
            go_wp2
            go_ret
            exact ⟨ret_b HF.out.symm, b0.trans (hB.mono b0.size)⟩
          | succ g =>
            have hj : j < L.length := by omega
            obtain ⟨a, ha⟩ : ∃ a, L[j]? = some a := ⟨_, List.getElem?_eq_getElem hj⟩
            obtain ⟨b, of, cp, e, hc⟩ := ((HA.out.below b0).below hB).at (by omega)
            simp only [Value.slice.injEq, true_and] at e
            obtain ⟨rfl, rfl⟩ := e
            obtain ⟨c0, c1, c2⟩ := a3 (hc j a ha)
            obtain ⟨q0, q1⟩ := ((HN.out.below hB).below (below1 wr (.cells a.cs 41))).c2
            have hft := fitL_take nx L j a ha
            have hlt := lastC_take L j a ha
            have hno := fitL_no nx L (j + 1)
            have hji : (j : Int) < (L.length : Int) := by omega
            have b1 := below1 wr (.cells a.cs 41)
            have n1 := Bk.new wr a.cs 41
            obtain ⟨w1, hw1⟩ : ∃ w1, w1 = wr.alloc (.cells a.cs 41) := ⟨_, rfl⟩
            rw [← hw1] at b1 n1 q0 q1
            have HW1 := Lib.hid hw1.symm
            obtain ⟨k0, k1, k2⟩ := a3 (b := wr.heap.size) (o := 0) (x := a) (fun q v hv => by rw [Nat.zero_add, n1.c q, ← Array.getElem?_toList]; exact hv)
            simp only [Nat.zero_add] at k1 k2
            have B1 : Below w0.heap.size w0 w1 := hB.trans (b1.mono hB.size)
            have hfs : fit1 nx (lastC (L.take j)) a = (decide (lastC (L.take j) < a.co) && decide (a.co ≤ nx) && decide (0 ≤ a.un) && decide (a.un ≤ 1099511627776)) := rfl
            rw [HF.out, Bool.true_and] at hft
            have HT := Lib.hid hft
            have HL := Lib.hid hlt
            have HNO := Lib.hid hno
            have HFS := Lib.hid hfs
            generalize lastC (L.take j) = lc at HT HFS ⊢
            clear ha hc hw1 n1 hft hlt hno hfs
            by_cases g1 : lc < a.co
            · by_cases g2 : a.co ≤ nx
              · by_cases g3 : 0 ≤ a.un
                · by_cases g4 : a.un ≤ 1099511627776
                  · have f1 : ¬ a.co ≤ lc := by omega
                    have f2 : ¬ nx < a.co := by omega
                    have f3 : ¬ a.un < 0 := by omega
                    have f4 : ¬ 1099511627776 < a.un := by omega
                    go_wp2_with (rw [HW1.out])
                    go_roundg g
                    case measure => omega
                    case rel => exact ⟨j + 1, by omega, by simp, by rw [HL.out], by rw [HT.out, HFS.out, decide_eq_true g1, decide_eq_true g2, decide_eq_true g3, decide_eq_true g4]; rfl, B1⟩
                  · have f1 : ¬ a.co ≤ lc := by omega
                    have f2 : ¬ nx < a.co := by omega
                    have f3 : ¬ a.un < 0 := by omega
                    have f4 : 1099511627776 < a.un := by omega
                    go_wp2_with (rw [HW1.out])
                    go_ret
                    exact ⟨ret_b (HNO.out (by rw [HT.out, HFS.out, decide_eq_false (by omega : ¬ a.un ≤ 1099511627776)]; simp)).symm, b0.trans (B1.mono b0.size)⟩
                · have f1 : ¬ a.co ≤ lc := by omega
                  have f2 : ¬ nx < a.co := by omega
                  have f3 : a.un < 0 := by omega
                  go_wp2_with (rw [HW1.out])
                  go_ret
                  exact ⟨ret_b (HNO.out (by rw [HT.out, HFS.out, decide_eq_false (by omega : ¬ 0 ≤ a.un)]; simp)).symm, b0.trans (B1.mono b0.size)⟩
              · have f1 : ¬ a.co ≤ lc := by omega
                have f2 : nx < a.co := by omega
                go_wp2_with (rw [HW1.out])
                go_ret
                exact ⟨ret_b (HNO.out (by rw [HT.out, HFS.out, decide_eq_false (by omega : ¬ a.co ≤ nx)]; simp)).symm, b0.trans (B1.mono b0.size)⟩
            · have f1 : a.co ≤ lc := by omega
              go_wp2_with (rw [HW1.out])
              go_ret
              exact ⟨ret_b (HNO.out (by rw [HT.out, HFS.out, decide_eq_false (by omega : ¬ lc < a.co)]; rfl)).symm, b0.trans (B1.mono b0.size)⟩
      · have e : fitS nx L = false := by unfold fitS; rw [decide_eq_false h3]; simp
        have h3' : 1024 < (L.length : Int) := by omega
        have h2' : ¬ 4611686018427387904 < nx := by omega
        rw [e]
        go_enter Try.func5, Try.ntmps5
        go_wp2_with (rw [HW.out])
        go_ret
        exact ⟨rfl, b0⟩
    · have e : fitS nx L = false := by unfold fitS; rw [decide_eq_false h2]; simp
      have h2' : 4611686018427387904 < nx := by omega
      rw [e]
      go_enter Try.func5, Try.ntmps5
      go_wp2_with (rw [HW.out])
      go_ret
      exact ⟨rfl, b0⟩
end Go.Proofs.Ytgghppojjhnbeaa
