/- For any number of tries and any row of results, their bodies valid or not, the law RetryRuns returns true, and the arguments read afterwards as they read before; nothing else is asked. -/
import Derived.Test.YtihmkjlmhjhocaaLawR
import Derived.Test.YtihmkjlmhjhocaaRRd
import Derived.ProofKit
import Derived.OpenShut
import Derived.Stop.Joined
namespace Go.Proofs.Ytihmkjlmhjhocaa
open Go.ChangeShapes Go.WideShapes Go.ChangeAt Go.WideMaps Go.WideElems Go.RowKit

theorem own : ownKnob Try.prog.godebug = none := by kernel_rfl
theorem law_runs12 (tries : Int) (ad : Option Addr) (zs : List Re) (cap : Nat) (w : World) (hreach : zs.length ≤ cap) (hcap : cap ≤ maxLen) (hI : Rrow w ad zs) (hT : ∀ x ∈ zs, ∃ (n : Nat) (t : Dt.Tr n), Bt w x n t) :
    Calls Try.prog 4 #[.int .i64 tries, .slice ad zs.length cap] w fun e w' => e = .returned (.bool true) ∧ Below w.heap.size w w' := by
  obtain ⟨vb, h1, h2⟩ := vb_of hT
  unfold maxLen at hcap
  cases hv : zs.all vb with
  | false => exact runs_bad tries ad zs cap vb w (by omega) hI h1 hv
  | true => exact runs_good tries ad zs cap vb w (by omega) hreach hI h1 hv fun x hx => h2 x hx (List.all_eq_true.1 hv x hx)
theorem laidOut : laidOutB Try.prog = true := by kernel_rfl

set_option maxRecDepth 100000 in
theorem lifted (os : Os) (started : os.Started) (H : Type) (enc : TypeId × Value → H) :
    ReturnsInHanded {} Try.checked os 4 .any (Rows.retryRunsSpec.pre6 enc Try.prog Try.f4 [] false)
      (Rows.retryRunsSpec.post enc Try.prog Try.f4 false true false false) := by
  refine returnsInHanded_of_change (C := Try.checked) own started (by kernel_rfl) Try.func4
    (ChangeSpec.witness6 (enc := enc) (C := Try.checked) false ⟨#[], #[.int .i64 0, .slice none 0 0], []⟩ 8 (by kernel_rfl) (by kernel_rfl) (by kernel_rfl) (by kernel_rfl)) ?_
  intro W base args ds gs before hval0 hW _ _
  have hval : ∀ (j : Nat) t v, Try.f4.params[j]? = some t → args[j]? = some v → Value.okWide Try.prog W .any base t v := hval0
  have hW' := hW
  obtain ⟨p, q, hA0, hV, rfl, hfz, hnd⟩ := hW
  have hA : DataW.TrodAll enc Try.prog W 0 (fun _ => true) true Try.f4.params.toList args.toList ds p := hA0
  rw [Try.params4] at hA hval
  obtain ⟨v0, v1, d0, d1, p0, p1, rfl, rfl, rfl, h0, h1⟩ := trodAll_two hA
  obtain ⟨rfl, rfl⟩ := trodVars_none hV
  obtain ⟨i0, rfl, rfl, rfl, hw0⟩ := open_int Try.underlying2 (hval 0 2 v0 rfl rfl) h0
  obtain ⟨a1, n1, c1, rfl⟩ := okWide_slice Try.underlying34 (hval 1 34 v1 rfl rfl)
  have hk1 := h1
  obtain ⟨f1, hf1⟩ := h1
  obtain ⟨ad, zs, cap, ec, hzc, hcm, hI, hT⟩ := resl_of_trod f1 [.slice a1 n1 c1] _ (by simpa [Value.cells] using hf1)
  simp only [List.cons.injEq, Value.slice.injEq, and_true] at ec
  obtain ⟨rfl, rfl, rfl⟩ := ec
  clear hA0 hval0
  simp only [List.append_nil] at hW'
  have hlt0 : ∀ x ∈ p1, x.block < W.heap.size := fun x hx => by simpa using hW'.lt x (by simp [hx])
  refine (law_runs12 i0 a1 zs c1 W hzc hcm hI hT).mono fun e W' ⟨he, hb⟩ => ?_
  subst he
  have e1 : Rows.retryRunsSpec.fn H ([.lit (.int .i64 i0), d1] ++ []) = { results := [.lit (.bool true)], args := [.lit (.int .i64 i0), d1] } := by simp [Rows.retryRunsSpec]
  refine ⟨_, rfl, _, _, _, [], p1, [], by simpa using hW', ?_, ?_, ?_, hb.frame _, fun h => by cases h⟩
  · rw [e1]; exact trodAll_mk1 (shut_bool Try.underlying4 true)
  · rw [e1]; exact trodAll_mk2 (shut_int Try.underlying2 hw0) (Below.trod laidOut (by kernel_rfl) (of_decide_eq_true (by kernel_rfl)) hk1 hb hlt0)
  · rw [e1]; rfl

theorem retryRuns_holds : Rows.RetryRunsSaid :=
  OpenClaim.holds_of_wide 4 Try.f4 rfl rfl rfl rfl rfl rfl rfl ⟨rfl, rfl, rfl, rfl, rfl⟩ rfl rfl rfl rfl rfl (by kernel_rfl) Try.func4 (by kernel_rfl)
    (of_decide_eq_true (by kernel_rfl)) (by unfold Func.isWrapper; first | (rw [if_pos (by decide +kernel)]; kernel_rfl) | (rw [if_neg (by decide +kernel)]; exact ⟨rfl, rfl⟩))
    (fun os started H enc _ => lifted os started H enc)
#print axioms retryRuns_holds
end Go.Proofs.Ytihmkjlmhjhocaa
