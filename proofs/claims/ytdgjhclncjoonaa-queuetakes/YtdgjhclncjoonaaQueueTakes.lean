/- For every inbox and tick the law QueueTakes returns true, and each argument reads afterwards as it read before; nothing else is asked. -/
import Derived.Test.YtdgjhclncjoonaaLt
import Derived.Test.YtdgjhclncjoonaaMRd
import Derived.Test.YtdgjhclncjoonaaMRe
import Derived.Test.YtdgjhclncjoonaaRows
import Derived.ProofKit
import Derived.OpenShut
import Derived.Stop.Joined
import Derived.Lib.SmallJoins
import Derived.Carry
namespace Go.Proofs.Ytdgjhclncjoonaa
open Go.ChangeShapes Go.WideShapes Go.ChangeAt Go.WideMaps Go.WideElems Go.RowKit Go.Joins

theorem own : ownKnob Try.prog.godebug = none := by kernel_rfl
theorem laidOut : laidOutB Try.prog = true := by kernel_rfl
set_option maxRecDepth 100000 in
theorem lifted (os : Os) (started : os.Started) (H : Type) (enc : TypeId × Value → H) :
    ReturnsInHanded {} Try.checked os 4 .any (Rows.queueTakesSpec.pre6 enc Try.prog Try.f4 [] false)
      (Rows.queueTakesSpec.post enc Try.prog Try.f4 false true false false) := by
  refine returnsInHanded_of_change (C := Try.checked) own started (by kernel_rfl) Try.func4
    (ChangeSpec.witness6 (enc := enc) (C := Try.checked) false ⟨#[], #[.agg #[.slice none 0 0, .int .i64 0, .int .i64 0], .int .i64 0], []⟩ 8 (by kernel_rfl) (by kernel_rfl) (by kernel_rfl) (by kernel_rfl)) ?_
  intro W base args ds gs before hval0 hW _ _
  have hval : ∀ (j : Nat) t v, Try.f4.params[j]? = some t → args[j]? = some v → Value.okWide Try.prog W .any base t v := hval0
  have hW' := hW
  obtain ⟨p, q, hA0, hV, rfl, hfz, hnd⟩ := hW
  have hA : DataW.TrodAll enc Try.prog W 0 (fun _ => true) true Try.f4.params.toList args.toList ds p := hA0
  rw [Try.params4] at hA hval
  obtain ⟨v0, v1, d0, d1, p0, p1, rfl, rfl, rfl, h0, h1⟩ := trodAll_two hA
  obtain ⟨rfl, rfl⟩ := trodVars_none hV
  have hk0 := h0
  obtain ⟨f0, hf0⟩ := h0
  have hlt0 : ∀ x ∈ p0, x.block < W.heap.size := fun x hx => by have h9 := hW'; simp only [List.append_nil] at h9; simpa using h9.lt x (by simp [hx])
  obtain ⟨cs0, rfl, hsz0⟩ := okWide_struct Try.underlying24 (hval 0 24 v0 rfl rfl)
  rw [ibcells] at hsz0
  obtain ⟨b0_, b1_, b2_, rfl⟩ := array3 hsz0
  obtain ⟨ad0, zs0, cap0, r0, dr0, ec0, hl0, hz0⟩ := ib_of_trod f0 [b0_, b1_, b2_] _ (by simpa [Value.cells] using hf0)
  simp only [List.cons.injEq, and_true] at ec0
  obtain ⟨rfl, rfl, rfl⟩ := ec0
  obtain ⟨i1, rfl, rfl, rfl, hw1⟩ := open_int Try.underlying2 (hval 1 2 v1 rfl rfl) h1
  clear hA0 hval0
  simp only [List.append_nil] at hW'
  refine (law_takes zs0 ad0 cap0 r0 dr0 i1 W hl0 hz0).mono fun e W' ⟨he, hb⟩ => ?_
  subst he
  have e1 : Rows.queueTakesSpec.fn H ([d0, .lit (.int .i64 i1)] ++ []) = { results := [.lit (.bool true)], args := [d0, .lit (.int .i64 i1)] } := by simp [Rows.queueTakesSpec]
  refine ⟨_, rfl, _, _, _, [], p0 ++ ([]), [], by simpa using hW', ?_, ?_, ?_, hb.frame _, fun h => by cases h⟩
  · rw [e1]; exact trodAll_mk1 (shut_bool Try.underlying4 true)
  · rw [e1]; exact trodAll_mk2 (Below.trod laidOut (by kernel_rfl) (of_decide_eq_true (by kernel_rfl)) hk0 hb hlt0) (shut_int Try.underlying2 hw1)
  · rw [e1]; rfl

theorem queueTakes_holds : Rows.QueueTakesSaid :=
  OpenClaim.holds_of_wide 4 Try.f4 rfl rfl rfl rfl rfl rfl rfl ⟨rfl, rfl, rfl, rfl, rfl⟩ rfl rfl rfl rfl rfl (by kernel_rfl) Try.func4 (by kernel_rfl)
    (of_decide_eq_true (by kernel_rfl)) (by unfold Func.isWrapper; first | (rw [if_pos (by decide +kernel)]; kernel_rfl) | (rw [if_neg (by decide +kernel)]; exact ⟨rfl, rfl⟩))
    (fun os started H enc _ => lifted os started H enc)
#print axioms queueTakes_holds
end Go.Proofs.Ytdgjhclncjoonaa
