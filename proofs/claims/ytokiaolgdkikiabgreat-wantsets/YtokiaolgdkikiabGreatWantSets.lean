/- For any two patterns, valid or not, the law WantSets returns true, and the arguments read afterwards as they read before; nothing else is asked. -/
import Derived.Test.YtokiaolgdkikiabGreatLawSet
import Derived.Test.YtokiaolgdkikiabGreatRdW
import Derived.ProofKit
import Derived.OpenShut
import Derived.Stop.Joined
namespace Go.Proofs.YtokiaolgdkikiabGreat
open Go.ChangeShapes Go.WideShapes Go.ChangeAt Go.WideMaps Go.WideElems Go.RowKit

set_option maxRecDepth 100000 in
theorem lifted (os : Os) (started : os.Started) (H : Type) (enc : TypeId × Value → H) :
    ReturnsInHanded {} Tryz.checked os 5 .any (Rows.wantSetsSpec.pre6 enc Tryz.prog Tryz.f5 [] false)
      (Rows.wantSetsSpec.post enc Tryz.prog Tryz.f5 false true false false) := by
  refine returnsInHanded_of_change (C := Tryz.checked) own started (by kernel_rfl) Tryz.func5
    (ChangeSpec.witness6 (enc := enc) (C := Tryz.checked) false ⟨#[], #[.agg #[.int .i64 0, .int .i64 0, .slice none 0 0], .agg #[.int .i64 0, .int .i64 0, .slice none 0 0]], []⟩ 8 (by kernel_rfl) (by kernel_rfl) (by kernel_rfl) (by kernel_rfl)) ?_
  intro W base args ds gs before hval0 hW _ _
  have hval : ∀ (j : Nat) t v, Tryz.f5.params[j]? = some t → args[j]? = some v → Value.okWide Tryz.prog W .any base t v := hval0
  have hW' := hW
  obtain ⟨p, q, hA0, hV, rfl, hfz, hnd⟩ := hW
  have hA : DataW.TrodAll enc Tryz.prog W 0 (fun _ => true) true Tryz.f5.params.toList args.toList ds p := hA0
  rw [Tryz.params5] at hA hval
  obtain ⟨v0, v1, d0, d1, p0, p1, rfl, rfl, rfl, h0, h1⟩ := trodAll_two hA
  obtain ⟨rfl, rfl⟩ := trodVars_none hV
  obtain ⟨cs0, rfl, hsz0⟩ := okWide_struct Tryz.underlying39 (hval 0 39 v0 rfl rfl)
  rw [wcells] at hsz0
  obtain ⟨a0, b0, c0, rfl⟩ := array3 hsz0
  have hk0 := h0
  obtain ⟨f0, hf0⟩ := h0
  obtain ⟨cs1, rfl, hsz1⟩ := okWide_struct Tryz.underlying39 (hval 1 39 v1 rfl rfl)
  rw [wcells] at hsz1
  obtain ⟨a1, b1, c1, rfl⟩ := array3 hsz1
  have hk1 := h1
  obtain ⟨f1, hf1⟩ := h1
  obtain ⟨t0, ht0⟩ := repW_of_trod (max f0 f1) _ _ (DataW.trod_le (Nat.le_max_left f0 f1) hf0)
  have r0 : RepW W (max f0 f1) [a0, b0, c0] t0 := by simpa [Value.cells] using ht0
  obtain ⟨t1, ht1⟩ := repW_of_trod (max f0 f1) _ _ (DataW.trod_le (Nat.le_max_right f0 f1) hf1)
  have r1 : RepW W (max f0 f1) [a1, b1, c1] t1 := by simpa [Value.cells] using ht1
  clear hA0 hval0
  simp only [List.append_nil] at hW'
  have hlt0 : ∀ x ∈ p0, x.block < W.heap.size := fun x hx => by simpa using hW'.lt x (by simp [hx])
  have hlt1 : ∀ x ∈ p1, x.block < W.heap.size := fun x hx => by simpa using hW'.lt x (by simp [hx])
  refine (law_sets' (max f0 f1) t0 a0 b0 c0 t1 a1 b1 c1 W r0 r1).mono fun e W' ⟨he, hb⟩ => ?_
  subst he
  have e1 : Rows.wantSetsSpec.fn H ([d0, d1] ++ []) = { results := [.lit (.bool true)], args := [d0, d1] } := by simp [Rows.wantSetsSpec]
  refine ⟨_, rfl, _, _, _, [], p0 ++ p1, [], by simpa using hW', ?_, ?_, ?_, hb.frame _, fun h => by cases h⟩
  · rw [e1]; exact trodAll_mk1 (shut_bool Tryz.underlying4 true)
  · rw [e1]; exact trodAll_mk2 (Below.trod laidOut (by kernel_rfl) (of_decide_eq_true (by kernel_rfl)) hk0 hb hlt0) (Below.trod laidOut (by kernel_rfl) (of_decide_eq_true (by kernel_rfl)) hk1 hb hlt1)
  · rw [e1]; rfl

theorem wantSets_holds : Rows.WantSetsSaid :=
  OpenClaim.holds_of_wide 5 Tryz.f5 rfl rfl rfl rfl rfl rfl rfl ⟨rfl, rfl, rfl, rfl, rfl⟩ rfl rfl rfl rfl rfl (by kernel_rfl) Tryz.func5 (by kernel_rfl)
    (of_decide_eq_true (by kernel_rfl)) (by unfold Func.isWrapper; first | (rw [if_pos (by decide +kernel)]; kernel_rfl) | (rw [if_neg (by decide +kernel)]; exact ⟨rfl, rfl⟩))
    (fun os started H enc _ => lifted os started H enc)
#print axioms wantSets_holds
end Go.Proofs.YtokiaolgdkikiabGreat
