/- The law TriePlays at every script within the sizes named; what is asked of the world: the two tables of unicode/utf8 as their text lays them. -/
import Derived.Test.YtcnglhlljmfanaaGreatDoorNq
namespace Go.Proofs.YtcnglhlljmfanaaGreatDoor
open Go.RowKit Tp Go.Maps Go.Shelf

set_option maxRecDepth 100000 in
set_option maxHeartbeats 4000000 in
theorem law_plays (w : World) (v : Value) (X : List Ac) (hX : ActRow w v X) (hok : ActOk X) (hlX : X.length ≤ 1048576) (hT : Tabs w) :
    Calls Tryz.prog 3 #[v] w fun e w' => e = .returned (.bool true) ∧ Below w.heap.size w w' := by
  have KN : Hid (Calls Tryz.prog 4 #[] w fun e w' => ∃ t, e = .returned (.pointer (some ⟨t, 0, none⟩)) ∧ TL w (w'.alloc (.cells #[.slice none 0 0] 28)) t w'.heap.size [] [] 0) := (new_any w).mono fun e w' ⟨t, nd, own, n, h1, h2, h3⟩ => by
    have htl := (Array.getElem?_eq_some_iff.1 h2.cell).1
    refine ⟨t, h1, h3.alloc h3.size _, nd, own, n, .slice none 0 0, h2.below (below1 _ _), ⟨heap_alloc_new _ _, World.ownsRow_nil _ _ _ _, by simp [Value.ownBlock], h3.size⟩, ?_, by omega, fun g e => by cases e⟩
    cases ho : own w'.heap.size with
    | none => rfl
    | some z => exact absurd (h2.g.lt _ (by rw [ho]; simp)) (by omega)
  have hsv : ∃ a c, v = .slice a X.length c := by rcases hX with ⟨⟨_, _, rfl⟩, rfl⟩ | ⟨g, o, c, rfl, _⟩ <;> exact ⟨_, _, rfl⟩
  obtain ⟨a, c, rfl⟩ := hsv
  have KA : Hid (∀ W, Below w.heap.size w W → Calls Tryz.prog 7 #[] W fun e w' => e = .returned (.bool true) ∧ Below W.heap.size W w') := fun W h => awake_any W (hT.from (Nat.le_refl _) h)
  go_enter Tryz.func3, Tryz.ntmps3
  go_wp2_with (first
    | (go_at_call 4; refine KN.out.mono ?_; rintro e w1 ⟨t, rfl, h1⟩))
  generalize hlb : w1.heap.size = lb at h1 ⊢
  clear hlb
  go_loopg [5] X.length (fun gk s5 wx => ∃ j : Nat, j + gk = X.length ∧ s5 = .int .i64 j ∧ TL w wx t lb (runA (X.take j)) (runA (X.take j)) (j * 65537))
  case atStart => exact ⟨0, by omega, rfl, by simpa [runA] using h1⟩
  case round =>
    obtain ⟨j, hjg, rfl, hTL⟩ := hrel
    have hl : (runA (X.take j)).length ≤ j := by have := runA_len (X.take j); rw [List.length_take] at this; omega
    cases gk with
    | zero =>
      obtain rfl : j = X.length := by omega
      have KW := Lib.hid (whole_any hTL (Same.refl _) (by omega))
      have hb := hTL.1
      clear hTL
      go_wp2_with (first
        | (go_at_call 6; refine KW.out.mono ?_; rintro e w2 ⟨rfl, h2⟩; have h2' := hb.trans (h2.mono hb.size))
        | (go_at_call 7; refine (KA.out _ h2').mono ?_; rintro e w3 ⟨rfl, h3⟩))
      go_ret
      exact ⟨rfl, h2'.trans (h3.mono h2'.size)⟩
    | succ gq =>
      have hj : j < X.length := by omega
      have hj' : ((j : Nat) : Int) < (X.length : Int) := by omega
      have hmem : X[j] ∈ X := List.getElem_mem hj
      have HR := Lib.hid (runA_take X j hj)
      obtain ⟨g, o, c', e0, hgl, hcx⟩ := hX.resolve_left (fun h0 => by rw [h0.2] at hj; simp at hj)
      simp only [Value.slice.injEq, true_and] at e0
      obtain ⟨rfl, rfl⟩ := e0
      have hcj := hcx j X[j] (List.getElem?_eq_getElem hj)
      have hBw := hTL.1
      obtain ⟨x0, x1, x2⟩ : wr.cell? ⟨g, o + j * 3, none⟩ = some (.int .i64 X[j].1) ∧ wr.cell? ⟨g, o + j * 3 + 1, none⟩ = some (.string X[j].2.1) ∧ wr.cell? ⟨g, o + j * 3 + 2, none⟩ = some (.int .i64 X[j].2.2) := by
        unfold World.cell? at hcj ⊢
        rw [hBw.block g hgl]; exact hcj
      have KC := Lib.hid (act_any hTL hT X[j] (hok.sz _ hmem) (hok.wf _ hmem) (by omega) (by omega))
      clear hTL hcx hcj
      go_wp2_with (first
        | (go_at_call 5; refine KC.out.mono ?_; rintro e w2 ⟨rfl, h2⟩; have H2 := Lib.hid h2; clear h2))
      go_roundg gq
      case measure => omega
      case rel =>
        refine ⟨j + 1, by omega, by first | rfl | rw [wrap64_nat (by omega)] | simp, ?_⟩
        rw [HR.out, show (j + 1) * 65537 = j * 65537 + 65537 by omega]
        exact H2.out
end Go.Proofs.YtcnglhlljmfanaaGreatDoor
