/- For every two numbers, row of messages and row of bools the law QueueLoses returns true, and each argument reads afterwards as it read before; nothing else is asked. -/
import Derived.Test.YtdgjhclncjoonaaQp
import Derived.Test.YtdgjhclncjoonaaMRd
import Derived.Test.YtdgjhclncjoonaaRows
import Derived.ProofKit
import Derived.OpenShut
import Derived.Stop.Joined
import Derived.Lib.SmallJoins
import Derived.Carry
namespace Go.Proofs.Ytdgjhclncjoonaa
open Go.ChangeShapes Go.WideShapes Go.ChangeAt Go.WideMaps Go.WideElems Go.RowKit Go.Joins

theorem own : ownKnob Try.prog.godebug = none := by kernel_rfl
theorem laidOut : laidOutB Try.prog = true := by kernel_rfl
set_option maxRecDepth 100000 in
theorem lifted (os : Os) (started : os.Started) (H : Type) (enc : TypeId × Value → H) :
    ReturnsInHanded {} Try.checked os 5 .any (Rows.queueLosesSpec.pre6 enc Try.prog Try.f5 [] false)
      (Rows.queueLosesSpec.post enc Try.prog Try.f5 false true false false) := by
  refine returnsInHanded_of_change (C := Try.checked) own started (by kernel_rfl) Try.func5
    (ChangeSpec.witness6 (enc := enc) (C := Try.checked) false ⟨#[], #[.int .i64 0, .int .i64 0, .slice none 0 0, .slice none 0 0], []⟩ 8 (by kernel_rfl) (by kernel_rfl) (by kernel_rfl) (by kernel_rfl)) ?_
  intro W base args ds gs before hval0 hW _ _
  have hval : ∀ (j : Nat) t v, Try.f5.params[j]? = some t → args[j]? = some v → Value.okWide Try.prog W .any base t v := hval0
  have hW' := hW
  obtain ⟨p, q, hA0, hV, rfl, hfz, hnd⟩ := hW
  have hA : DataW.TrodAll enc Try.prog W 0 (fun _ => true) true Try.f5.params.toList args.toList ds p := hA0
  rw [Try.params5] at hA hval
  obtain ⟨v0, v1, v2, v3, d0, d1, d2, d3, p0, p1, p2, p3, rfl, rfl, rfl, h0, h1, h2, h3⟩ := trodAll_four hA
  obtain ⟨rfl, rfl⟩ := trodVars_none hV
  obtain ⟨i0, rfl, rfl, rfl, hw0⟩ := open_int Try.underlying3 (hval 0 3 v0 rfl rfl) h0
  obtain ⟨i1, rfl, rfl, rfl, hw1⟩ := open_int Try.underlying3 (hval 1 3 v1 rfl rfl) h1
  have hk2 := h2
  obtain ⟨f2, hf2⟩ := h2
  have hlt2 : ∀ x ∈ p2, x.block < W.heap.size := fun x hx => by have h9 := hW'; simp only [List.append_nil] at h9; simpa using h9.lt x (by simp [hx])
  obtain ⟨a2, n2, cc2, rfl⟩ := okWide_slice Try.underlying22 (hval 2 22 v2 rfl rfl)
  obtain ⟨ad2, zs2, cap2, hv2, hl2, hm2, hz2, -⟩ := msgl_of_trod f2 [.slice a2 n2 cc2] _ (by simpa [Value.cells] using hf2)
  simp only [List.cons.injEq, Value.slice.injEq, and_true] at hv2
  obtain ⟨rfl, rfl, rfl⟩ := hv2
  have hk3 := h3
  obtain ⟨f3, hf3⟩ := h3
  have hlt3 : ∀ x ∈ p3, x.block < W.heap.size := fun x hx => by have h9 := hW'; simp only [List.append_nil] at h9; simpa using h9.lt x (by simp [hx])
  obtain ⟨a3, n3, cc3, rfl⟩ := okWide_slice Try.underlying48 (hval 3 48 v3 rfl rfl)
  obtain ⟨ad3, zs3, cap3, hv3, hl3, hm3, hz3⟩ := bl_of_trod f3 [.slice a3 n3 cc3] _ (by simpa [Value.cells] using hf3)
  simp only [List.cons.injEq, Value.slice.injEq, and_true] at hv3
  obtain ⟨rfl, rfl, rfl⟩ := hv3
  clear hA0 hval0
  simp only [List.append_nil] at hW'
  refine (law_loses i0 i1 zs2 a2 cc2 zs3 a3 cc3 W (Nat.le_trans hl2 hm2) hz2 (Nat.le_trans hl3 hm3) hz3).mono fun e W' ⟨he, hb⟩ => ?_
  subst he
  have e1 : Rows.queueLosesSpec.fn H ([.lit (.int .i64 i0), .lit (.int .i64 i1), d2, d3] ++ []) = { results := [.lit (.bool true)], args := [.lit (.int .i64 i0), .lit (.int .i64 i1), d2, d3] } := by simp [Rows.queueLosesSpec]
  refine ⟨_, rfl, _, _, _, [], [] ++ ([] ++ (p2 ++ (p3))), [], by simpa using hW', ?_, ?_, ?_, hb.frame _, fun h => by cases h⟩
  · rw [e1]; exact trodAll_mk1 (shut_bool Try.underlying4 true)
  · rw [e1]; exact trodAll_mk4 (shut_int Try.underlying3 hw0) (shut_int Try.underlying3 hw1) (Below.trod laidOut (by kernel_rfl) (of_decide_eq_true (by kernel_rfl)) hk2 hb hlt2) (Below.trod laidOut (by kernel_rfl) (of_decide_eq_true (by kernel_rfl)) hk3 hb hlt3)
  · rw [e1]; rfl

theorem queueLoses_holds : Rows.QueueLosesSaid :=
  OpenClaim.holds_of_wide 5 Try.f5 rfl rfl rfl rfl rfl rfl rfl ⟨rfl, rfl, rfl, rfl, rfl⟩ rfl rfl rfl rfl rfl (by kernel_rfl) Try.func5 (by kernel_rfl)
    (of_decide_eq_true (by kernel_rfl)) (by unfold Func.isWrapper; first | (rw [if_pos (by decide +kernel)]; kernel_rfl) | (rw [if_neg (by decide +kernel)]; exact ⟨rfl, rfl⟩))
    (fun os started H enc _ => lifted os started H enc)
#print axioms queueLoses_holds
end Go.Proofs.Ytdgjhclncjoonaa
