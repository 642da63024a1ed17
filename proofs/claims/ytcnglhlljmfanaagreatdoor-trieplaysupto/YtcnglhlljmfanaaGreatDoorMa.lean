/- The document's own list of subscriptions in memory: place, Add; what is asked of the world: the two tables of unicode/utf8 as their text lays them. -/
import Derived.Test.YtcnglhlljmfanaaGreatDoorKm
import Derived.Test.YtcnglhlljmfanaaGreatDoorRb
namespace Go.Proofs.YtcnglhlljmfanaaGreatDoor
open Go.RowKit Tp Go.Maps Go.Shelf

/-- The cells of a list of subscriptions. -/
def cellsL (A : List (Bs × Int)) : List Value := A.flatMap fun e => [.string (bs e.1), .int .i64 e.2]
theorem cellsL_len (A : List (Bs × Int)) : (cellsL A).length = A.length * 2 := by
  induction A with
  | nil => rfl
  | cons e A ih => simp only [cellsL, List.flatMap_cons, List.length_append, List.length_cons, List.length_nil] at ih ⊢; omega
theorem cellsL_get : ∀ (A : List (Bs × Int)) (j : Nat) (e : Bs × Int), A[j]? = some e → (cellsL A)[j * 2]? = some (.string (bs e.1)) ∧ (cellsL A)[j * 2 + 1]? = some (.int .i64 e.2)
  | [], j, e, h => by simp at h
  | a :: A, 0, e, h => by simp at h; subst h; exact ⟨rfl, rfl⟩
  | a :: A, j + 1, e, h => by
    have ih := cellsL_get A j e (by simpa using h)
    have e1 : cellsL (a :: A) = [.string (bs a.1), .int .i64 a.2] ++ cellsL A := rfl
    rw [e1]
    constructor
    · rw [show (j + 1) * 2 = (j * 2) + 2 by omega, List.getElem?_append_right (by simp)]; simpa using ih.1
    · rw [show (j + 1) * 2 + 1 = (j * 2 + 1) + 2 by omega, List.getElem?_append_right (by simp)]; simpa using ih.2

/-- The list at block lb; its row is new since B. -/
def ListAt (w : World) (lb B : Nat) (v : Value) (A : List (Bs × Int)) : Prop :=
  w.heap[lb]? = some (.cells #[v] 28 (0, 0)) ∧ w.ownsRow B 59 2 v A.length (cellsL A) ∧ v.ownBlock ≠ some lb ∧ B ≤ lb

theorem ListAt.but {w w' : World} {lb B : Nat} {v : Value} {A : List (Bs × Int)} (h : ListAt w lb B v A) {C : Nat → Prop} (hB : But C w w') (h1 : ¬ C lb) (h2 : ∀ g, v.ownBlock = some g → ¬ C g) : ListAt w' lb B v A := by
  obtain ⟨a1, ⟨b1, b2⟩, a3, a4⟩ := h
  refine ⟨hB.at a1 h1, ⟨b1, ?_⟩, a3, a4⟩
  rcases b2 with b2 | ⟨g, c, cur, rfl, c1, c2, c3⟩
  · exact .inl b2
  · exact .inr ⟨g, c, cur, rfl, c1, hB.at c2 (h2 g rfl), c3⟩
theorem ListAt.below {w w' : World} {lb B : Nat} {v : Value} {A : List (Bs × Int)} (h : ListAt w lb B v A) (hB : Below w.heap.size w w') : ListAt w' lb B v A := h.but (But.of_below (C := fun _ => False) hB) (fun h => h) (fun _ _ h => h)
theorem ListAt.lt {w : World} {lb B : Nat} {v : Value} {A : List (Bs × Int)} (h : ListAt w lb B v A) : lb < w.heap.size ∧ ∀ g, v.ownBlock = some g → B ≤ g ∧ g < w.heap.size := by
  refine ⟨(Array.getElem?_eq_some_iff.1 h.1).1, ?_⟩
  obtain ⟨_, ⟨_, ⟨rfl, _⟩ | ⟨g, c, cur, rfl, h3, h4, _⟩⟩, _⟩ := h
  · intro g e; cases e
  · intro g' e; cases e; exact ⟨h3, (Array.getElem?_eq_some_iff.1 h4).1⟩

/-- Where a subscription stands. -/
def plc (A : List (Bs × Int)) (f : Bs) (i : Int) : Option Nat := A.findIdx? fun e => decide (e = (f, i))
def plcI : Option Nat → Int
  | none => -1
  | some k => k

section
variable {w : World} {lb B : Nat} {v : Value} {A : List (Bs × Int)}

set_option maxRecDepth 100000 in
set_option maxHeartbeats 4000000 in
theorem place_any (h : ListAt w lb B v A) (f : ByteArray) (i : Int) (hA : A.length ≤ 4398046511104) :
    Calls Tryz.prog 27 #[.pointer (some ⟨lb, 0, none⟩), .string f, .int .i64 i] w fun e w' => e = .returned (.int .i64 (plcI (plc A (tl f) i))) ∧ Below w.heap.size w w' := by
  have hc0 : w.cell? ⟨lb, 0, none⟩ = some v := by rw [cell_at h.1 0]; rfl
  have hsv : ∃ a c, v = .slice a A.length c := by
    rcases h.2.1.2 with ⟨rfl, h0⟩ | ⟨g', c', cur, rfl, _⟩
    · exact ⟨_, _, by rw [h0]⟩
    · exact ⟨_, _, rfl⟩
  obtain ⟨a, c, rfl⟩ := hsv
  go_enter Tryz.func27, Tryz.ntmps27
  go_wp2
  go_loopg [7] A.length (fun gk s7 wx => ∃ j : Nat, j + gk = A.length ∧ s7 = .int .i64 j ∧ (∀ k e, k < j → A[k]? = some e → e ≠ (tl f, i)) ∧ wx = w)
  case atStart => exact ⟨0, by omega, rfl, fun k e hk => absurd hk (Nat.not_lt_zero _), rfl⟩
  case round =>
    obtain ⟨j, hjg, rfl, hno, rfl⟩ := hrel
    cases gk with
    | zero =>
      obtain rfl : j = A.length := by omega
      go_wp2
      go_ret
      refine ⟨?_, Below.refl _ _⟩
      have e : plc A (tl f) i = none := by
        unfold plc
        rw [List.findIdx?_eq_none_iff]
        intro e he
        obtain ⟨k, hk⟩ := List.getElem?_of_mem he
        simpa using hno k e (List.getElem?_eq_some_iff.1 hk).1 hk
      rw [e]; rfl
    | succ gq =>
      have hj : j < A.length := by omega
      have hj' : ((j : Nat) : Int) < (A.length : Int) := by omega
      obtain ⟨hA1, hA2⟩ := cellsL_get A j A[j] (by simp [hj])
      obtain ⟨g, cp, cur, e0, _, hg, _, _, hcs, htk⟩ := h.2.1.2.resolve_left (fun h0 => by omega)
      simp only [Value.slice.injEq, true_and] at e0
      obtain ⟨rfl, rfl⟩ := e0
      have k1 : wr.cell? ⟨g, j * 2, none⟩ = some (.string (bs A[j].1)) := by
        rw [cell_at hg, ← hA1, ← htk, List.getElem?_take_of_lt (by omega)]; simp
      have k2 : wr.cell? ⟨g, j * 2 + 1, none⟩ = some (.int .i64 A[j].2) := by
        rw [cell_at hg, ← hA2, ← htk, List.getElem?_take_of_lt (by omega)]; simp
      have hx : ∀ k, k < j + 1 → A[j] ≠ (tl f, i) → ∀ e, A[k]? = some e → e ≠ (tl f, i) := fun k hk hne e he => by
        by_cases hkj : k = j
        · subst hkj; rw [List.getElem?_eq_getElem hj] at he; cases he; exact hne
        · exact hno k e (by omega) he
      by_cases hf1 : bs A[j].1 = f
      · have e1 : ((bs A[j].1).toList == f.toList) = true := by rw [hf1]; simp
        by_cases hi1 : A[j].2 = i
        · have e2 : (A[j].2 == i) = true := by simp [hi1]
          clear hx
          go_wp2
          go_ret
          refine ⟨?_, Below.refl _ _⟩
          have e : plc A (tl f) i = some j := by
            unfold plc
            rw [List.findIdx?_eq_some_iff_getElem]
            refine ⟨hj, ?_, fun k hk => ?_⟩
            · rw [decide_eq_true_eq]; exact Prod.ext (by rw [← hf1]; exact (tl_bs _).symm) hi1
            · simpa using hno k A[k] hk (List.getElem?_eq_getElem (by omega))
          rw [e]; rfl
        · have e2 : (A[j].2 == i) = false := by simp [hi1]
          have hne : A[j] ≠ (tl f, i) := fun e => hi1 (by rw [e])
          have HX := Lib.hid hx
          clear hx
          go_wp2
          go_roundg gq
          case measure => omega
          case rel => exact ⟨j + 1, by omega, by first | rfl | rw [wrap64_nat (by omega)] | simp, fun k e hk he => HX.out k hk hne e he, rfl⟩
      · have e1 : ((bs A[j].1).toList == f.toList) = false := by simpa [tl_inj] using hf1
        have hne : A[j] ≠ (tl f, i) := fun e => hf1 (by rw [e]; exact bs_tl f)
        have HX := Lib.hid hx
        clear hx
        go_wp2
        go_roundg gq
        case measure => omega
        case rel => exact ⟨j + 1, by omega, by first | rfl | rw [wrap64_nat (by omega)] | simp, fun k e hk he => HX.out k hk hne e he, rfl⟩
end
end Go.Proofs.YtcnglhlljmfanaaGreatDoor
