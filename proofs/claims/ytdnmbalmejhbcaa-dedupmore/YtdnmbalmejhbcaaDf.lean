/- The law's own check answers true; no condition. -/
import Derived.Test.YtdnmbalmejhbcaaDe
namespace Go.Proofs.Ytdnmbalmejhbcaa
open Go.RowKit Go.Shelf

theorem Sl.nil (w : World) : Sl w none 0 [] := ⟨Nat.le_refl _, fun _ => rfl, .inl rfl⟩
set_option maxRecDepth 100000 in
set_option maxHeartbeats 1000000 in
theorem awake_any (w : World) : Calls Try.prog 7 #[] w fun e w' => e = .returned (.bool true) ∧ Below w.heap.size w w' := by
  have S1 := Lib.hid (fun w' => seen_any none [] 0 2 5 w' (by simp) (Sl.nil w'))
  rw [show sn 2 5 [] = [5] by decide, show decide ((5 : Int) ∈ ([] : List Int)) = false by decide] at S1
  have S2 := Lib.hid (fun ad cap w' h => seen_any ad [5] cap 2 5 w' (by simp) h)
  rw [show sn 2 5 [5] = [5] by decide, show decide ((5 : Int) ∈ ([5] : List Int)) = true by decide] at S2
  have K1 := Lib.hid (fun ad cap w' h => knows_any ad [5] cap 5 w' (by simp) h)
  rw [show decide ((5 : Int) ∈ ([5] : List Int)) = true by decide] at K1
  have K2 := Lib.hid (fun ad cap w' h => knows_any ad [5] cap 6 w' (by simp) h)
  rw [show decide ((6 : Int) ∈ ([5] : List Int)) = false by decide] at K2
  simp only [List.length_cons, List.length_nil, Nat.zero_add] at S1 S2 K1 K2
  go_enter Try.func7, Try.ntmps7
  go_wp2_with (first
    | (go_at_call 8; first
      | (with_reducible refine (S1.out _).mono ?_; rintro e w1 ⟨a1, c1, rfl, o1, b1⟩; have t1 := below1 w1 (.cells #[.slice a1 1 c1] 24); have O1 := Lib.hid (o1.sl.step t1); have R1 := Lib.hid (Bk.new w1 #[.slice a1 1 c1] 24); have L1 := Lib.hid (below_then t1 b1); clear o1 b1 t1)
      | (with_reducible refine (S2.out _ _ _ O1.out).mono ?_; rintro e w2 ⟨a2, c2, rfl, o2, b2⟩; have t2 := below_then (below1 w2 (.cells #[.slice a2 1 c2] 24)) b2; have r2 := R1.out.step t2; have R2 := Lib.hid r2; have d2 := r2.c 0; simp at d2; have O2 := Lib.hid (O1.out.step t2); have L2 := Lib.hid (below_then t2 L1.out); clear t2 r2 o2 b2))
    | (go_at_call 11; first
      | (with_reducible refine (K1.out _ _ _ O2.out).mono ?_; rintro e w3 ⟨rfl, b3⟩; have r3 := R2.out.step b3; have d3 := r3.c 0; simp at d3; have O3 := Lib.hid (O2.out.step b3); have L3 := Lib.hid (below_then b3 L2.out); clear r3 b3)
      | (with_reducible refine (K2.out _ _ _ O3.out).mono ?_; rintro e w4 ⟨rfl, b4⟩; have L4 := Lib.hid (below_then b4 L3.out); clear b4)))
  go_ret
  exact ⟨rfl, L4.out⟩
end Go.Proofs.Ytdnmbalmejhbcaa
