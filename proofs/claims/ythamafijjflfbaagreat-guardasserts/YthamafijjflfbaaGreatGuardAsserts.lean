/- For any value, valid or not, and any number, the law GuardAsserts returns true, and the arguments read afterwards as they read before; nothing else is asked. -/
import Derived.Test.YthamafijjflfbaaGreatJca
import Derived.Test.YthamafijjflfbaaGreatDRd6
import Derived.ProofKit
import Derived.OpenShut
import Derived.Stop.Joined
namespace Go.Proofs.YthamafijjflfbaaGreat
open Go.ChangeShapes Go.WideShapes Go.ChangeAt Go.WideMaps Go.WideElems Go.RowKit

theorem own : ownKnob Tryz.prog.godebug = none := by kernel_rfl
theorem laidOut : laidOutB Tryz.prog = true := by kernel_rfl

set_option maxRecDepth 100000 in
theorem lifted (os : Os) (started : os.Started) (H : Type) (enc : TypeId × Value → H) :
    ReturnsInHanded {} Tryz.checked os 5 .any (Rows.guardAssertsSpec.pre6 enc Tryz.prog Tryz.f5 [] false)
      (Rows.guardAssertsSpec.post enc Tryz.prog Tryz.f5 false true false false) := by
  refine returnsInHanded_of_change (C := Tryz.checked) own started (by kernel_rfl) Tryz.func5
    (ChangeSpec.witness6 (enc := enc) (C := Tryz.checked) false ⟨#[], #[.agg #[.int .i64 0, .int .i64 0, .int .u64 0, .string ⟨#[]⟩, .slice none 0 0], .int .i64 0], []⟩ 8 (by kernel_rfl) (by kernel_rfl) (by kernel_rfl) (by kernel_rfl)) ?_
  intro W base args ds gs before hval0 hW _ _
  have hval : ∀ (j : Nat) t v, Tryz.f5.params[j]? = some t → args[j]? = some v → Value.okWide Tryz.prog W .any base t v := hval0
  have hW' := hW
  obtain ⟨p, q, hA0, hV, rfl, hfz, hnd⟩ := hW
  have hA : DataW.TrodAll enc Tryz.prog W 0 (fun _ => true) true Tryz.f5.params.toList args.toList ds p := hA0
  rw [Tryz.params5] at hA hval
  obtain ⟨v0, v1, d0, d1, p0, p1, rfl, rfl, rfl, h0, h1⟩ := trodAll_two hA
  obtain ⟨rfl, rfl⟩ := trodVars_none hV
  obtain ⟨cs0, rfl, hsz0⟩ := okWide_struct Tryz.underlying25 (hval 0 25 v0 rfl rfl)
  rw [Dt.tcellsN25] at hsz0
  obtain ⟨a0, b0, c0, e0, g0, rfl⟩ := Dt.array5 hsz0
  have hk0 := h0
  obtain ⟨f0, hf0⟩ := h0
  obtain ⟨t0, ht0, h60⟩ := Dt.rep64_of_trod f0 _ _ hf0
  have r0 : Dt.Rep W f0 [a0, b0, c0, e0, g0] t0 := by simpa [Value.cells] using ht0
  obtain ⟨i1, rfl, rfl, rfl, hw1⟩ := open_int Tryz.underlying2 (hval 1 2 v1 rfl rfl) h1
  clear hA0 hval0
  simp only [List.append_nil] at hW'
  have hlt0 : ∀ x ∈ p0, x.block < W.heap.size := fun x hx => by simpa using hW'.lt x (by simp [hx])
  refine (law_asserts f0 t0 a0 b0 c0 e0 g0 i1 W r0 h60).mono fun e W' ⟨he, hb⟩ => ?_
  subst he
  have e1 : Rows.guardAssertsSpec.fn H ([d0, .lit (.int .i64 i1)] ++ []) = { results := [.lit (.bool true)], args := [d0, .lit (.int .i64 i1)] } := by simp [Rows.guardAssertsSpec]
  refine ⟨_, rfl, _, _, _, [], p0, [], by simpa using hW', ?_, ?_, ?_, hb.frame _, fun h => by cases h⟩
  · rw [e1]; exact trodAll_mk1 (shut_bool Tryz.underlying4 true)
  · rw [e1]
    have hh := trodAll_mk2 (Below.trod laidOut (by kernel_rfl) (of_decide_eq_true (by kernel_rfl)) hk0 hb hlt0) (shut_int Tryz.underlying2 hw1)
    simp only [List.append_nil] at hh
    exact hh
  · rw [e1]; rfl

theorem guardAsserts_holds : Rows.GuardAssertsSaid :=
  OpenClaim.holds_of_wide 5 Tryz.f5 rfl rfl rfl rfl rfl rfl rfl ⟨rfl, rfl, rfl, rfl, rfl⟩ rfl rfl rfl rfl rfl (by kernel_rfl) Tryz.func5 (by kernel_rfl)
    (of_decide_eq_true (by kernel_rfl)) (by unfold Func.isWrapper; first | (rw [if_pos (by decide +kernel)]; kernel_rfl) | (rw [if_neg (by decide +kernel)]; exact ⟨rfl, rfl⟩))
    (fun os started H enc _ => lifted os started H enc)
#print axioms guardAsserts_holds
end Go.Proofs.YthamafijjflfbaaGreat
