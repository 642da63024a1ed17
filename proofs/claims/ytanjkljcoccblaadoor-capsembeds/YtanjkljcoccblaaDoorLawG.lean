/- The law CapsGroups at every set and number; what is asked of the world: the table of words as its text lays it. -/
import Derived.Test.YtanjkljcoccblaaDoorCm
namespace Go.Proofs.YtanjkljcoccblaaDoor
open Go.RowKit Go.Maps
theorem ints_cell {W : World} {B : Nat} {a : Option Addr} {cp : Nat} {l : List Nat} (h : IntsAt W B (.slice a l.length cp) l) (j : Nat) (hj : j < l.length) : ∃ g, a = some ⟨g, 0, none⟩ ∧ g < W.heap.size ∧ B ≤ g ∧ W.cell? ⟨g, j, none⟩ = some (.int .i64 ((l[j] : Nat) : Int)) := by
  obtain ⟨h1, ⟨e0, h0⟩ | ⟨g, c, cur, e0, h3, h4, h5, h6, h7, h8⟩⟩ := h
  · omega
  · simp only [Value.slice.injEq, true_and] at e0
    obtain ⟨rfl, rfl⟩ := e0
    refine ⟨g, rfl, (Array.getElem?_eq_some_iff.1 h4).1, h3, ?_⟩
    rw [cell_at h4 j]
    have h9 : (cur.toList.take (l.length * 1))[j]? = (l.map fun (k : Nat) => Value.int .i64 (k : Int))[j]? := by rw [h8]
    rw [List.getElem?_take_of_lt (by omega), List.getElem?_map, List.getElem?_eq_getElem hj] at h9
    simpa using h9
set_option maxRecDepth 100000 in
set_option maxHeartbeats 2000000 in
theorem law_groups (c : Nat) (hc : c < 4294967296) (g : Int) (w : World) (hN : Wds w) : Calls Tryd.prog 4 #[.int .u32 (c : Nat), .int .i64 g] w fun e w' => e = .returned (.bool true) ∧ Below w.heap.size w w' := by
  have K1 := Lib.hid (groups_any c hc w)
  have K2 := Lib.hid (rgroups_any c hc)
  have K3 := Lib.hid (fun W => parts_any g W)
  have K4 := Lib.hid (fun W => rparts_any g W)
  have K5 : Hid (∀ W, Below w.heap.size w W → Calls Tryd.prog 18 #[] W fun e w' => e = .returned (.bool true) ∧ Below W.heap.size W w') := fun W h => awake_any W (hN.below h)
  have hl := grs_len c 5
  obtain ⟨L, hL⟩ : ∃ L, L = grs c 5 := ⟨_, rfl⟩
  rw [← hL] at K1 K2 hl
  clear hL
  go_enter Tryd.func4, Tryd.ntmps4
  go_wp2_with (first
    | (go_at_call 19; refine K1.out.mono ?_; rintro e w2 ⟨a2, c2, rfl, t2, h2⟩; have T2 := Lib.hid t2; clear t2)
    | (go_at_call 20; refine (K2.out _).mono ?_; rintro e w3 ⟨a3, c3, rfl, t3, h3⟩; have T3 := Lib.hid t3; clear t3; have h3' := h2.trans (h3.mono h2.size))
    | (go_at_call 21; refine (K3.out _).mono ?_; rintro e w4 ⟨rfl, h4⟩; have h4' := h3'.trans (h4.mono h3'.size))
    | (go_at_call 22; refine (K4.out _).mono ?_; rintro e w5 ⟨rfl, h5⟩; have h5' := h4'.trans (h5.mono h4'.size)))
  have X2 : Hid (∀ W, Below w5.heap.size w5 W → ∀ j, j < L.length → ∃ g, a2 = some ⟨g, 0, none⟩ ∧ W.cell? ⟨g, j, none⟩ = some (.int .i64 ((L.getD j 0 : Nat) : Int))) := fun W hW j hj => by
    obtain ⟨g, q1, q2, _, q3⟩ := ints_cell (row_below T2.out (((h3.trans (h4.mono h3.size)).trans (h5.mono (h3.trans (h4.mono h3.size)).size)).trans (hW.mono ((h3.trans (h4.mono h3.size)).trans (h5.mono (h3.trans (h4.mono h3.size)).size)).size))) j hj
    exact ⟨g, q1, by rw [q3]; simp [List.getD, hj]⟩
  have X3 : Hid (∀ W, Below w5.heap.size w5 W → ∀ j, j < L.length → ∃ g, a3 = some ⟨g, 0, none⟩ ∧ W.cell? ⟨g, j, none⟩ = some (.int .i64 ((L.getD j 0 : Nat) : Int))) := fun W hW j hj => by
    obtain ⟨g, q1, q2, _, q3⟩ := ints_cell (row_below T3.out ((h4.trans (h5.mono h4.size)).trans (hW.mono (h4.trans (h5.mono h4.size)).size))) j hj
    exact ⟨g, q1, by rw [q3]; simp [List.getD, hj]⟩
  clear T2 T3 K1 K2 K3 K4
  go_loopg [26] L.length (fun gk s26 wx => ∃ j : Nat, j + gk = L.length ∧ s26 = .int .i64 j ∧ Below w5.heap.size w5 wx)
  case atStart => exact ⟨0, by omega, rfl, Below.refl _ _⟩
  case round =>
    obtain ⟨j, hjg, rfl, hB⟩ := hrel
    have hB' := h5'.trans (hB.mono h5'.size)
    cases gk with
    | zero =>
      obtain rfl : j = L.length := by omega
      go_wp2_with (first
        | (go_at_call 18; refine (K5.out _ hB').mono ?_; rintro e w6 ⟨rfl, h6⟩))
      go_ret
      exact ⟨rfl, hB'.trans (h6.mono hB'.size)⟩
    | succ gq =>
      have hj : j < L.length := by omega
      have hj' : ((j : Nat) : Int) < (L.length : Int) := by omega
      obtain ⟨g2, rfl, y2⟩ := X2.out wr hB j hj
      obtain ⟨g3, rfl, y3⟩ := X3.out wr hB j hj
      generalize L.getD j 0 = z at y2 y3
      clear X2 X3
      go_wp2_with fail
      go_quiet (fail)
      go_wp2
      go_roundg gq
      case measure => omega
      case rel => exact ⟨j + 1, by omega, by first | rfl | rw [wrap64_nat (by omega)] | simp, below_drewN hB nq⟩
end Go.Proofs.YtanjkljcoccblaaDoor
