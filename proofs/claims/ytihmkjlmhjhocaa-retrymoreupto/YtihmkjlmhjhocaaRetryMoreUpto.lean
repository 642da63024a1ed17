/- For any two numbers of tries and any two rows of results, their bodies valid or not, together of bulk at most 1048576, the law RetryMore returns true, and the arguments read afterwards as they read before; nothing else is asked. -/
import Derived.Test.YtihmkjlmhjhocaaLawM
import Derived.Test.YtihmkjlmhjhocaaRRe
import Derived.ProofKit
import Derived.OpenShut
import Derived.Stop.Joined
namespace Go.Proofs.Ytihmkjlmhjhocaa
open Go.ChangeShapes Go.WideShapes Go.ChangeAt Go.WideMaps Go.WideElems Go.RowKit

theorem own : ownKnob Try.prog.godebug = none := by kernel_rfl
theorem law_more (tries more : Int) (ad ad' : Option Addr) (zs ys : List Re) (cap cap' : Nat) (w : World) (hreach : zs.length ≤ 1048576) (hreach' : ys.length ≤ 1048576) (hcap : zs.length ≤ cap) (hI : Rrow w ad zs) (hI' : Rrow w ad' ys) (hT : ∀ x ∈ zs, ∃ (n : Nat) (t : Dt.Tr n), Bt w x n t) (hT' : ∀ x ∈ ys, ∃ (n : Nat) (t : Dt.Tr n), Bt w x n t) :
    Calls Try.prog 5 #[.int .i64 tries, .int .i64 more, .slice ad zs.length cap, .slice ad' ys.length cap'] w fun e w' => e = .returned (.bool true) ∧ Below w.heap.size w w' := by
  obtain ⟨vb, h1, h2⟩ := vb_of hT
  obtain ⟨vb', h1', h2'⟩ := vb_of hT'
  cases hv : zs.all vb with
  | false => exact more_bad tries more ad ad' zs ys cap cap' vb vb' w hreach hreach' hI hI' h1 h1' (.inl hv)
  | true =>
    cases hv' : ys.all vb' with
    | false => exact more_bad tries more ad ad' zs ys cap cap' vb vb' w hreach hreach' hI hI' h1 h1' (.inr hv')
    | true =>
      refine more_good tries more ad ad' zs ys cap cap' vb vb' w hreach hreach' hcap hI hI' h1 h1' hv hv' fun x hx => ?_
      rcases List.mem_append.1 hx with hx | hx
      · exact h2 x hx (List.all_eq_true.1 hv x hx)
      · exact h2' x hx (List.all_eq_true.1 hv' x hx)
theorem laidOut : laidOutB Try.prog = true := by kernel_rfl

set_option maxRecDepth 100000 in
theorem contract (H : Type) (enc : TypeId × Value → H) (W : World) (base : Nat) (args : Array Value) (ds gs : List (DataW H)) (before : List MemPlace)
    (hval0 : ∀ (j : Nat) t v, Try.f5.params[j]? = some t → args[j]? = some v → Value.okWide Try.prog W .any base t v)
    (hW : DataW.Whole enc Try.prog Try.f5.params.toList Rows.retryMoreSpec.vars false W args.toList ds gs before) (hk : Rows.uptoSmall H (ds ++ gs) = true) :
    Calls Try.prog 5 args W fun e W' => ∃ v, e = .returned v ∧ Rows.retryMoreSpec.post enc Try.prog Try.f5 false true false false W args v W' := by
  have hval : ∀ (j : Nat) t v, Try.f5.params[j]? = some t → args[j]? = some v → Value.okWide Try.prog W .any base t v := hval0
  have hW' := hW
  obtain ⟨p, q, hA0, hV, rfl, hfz, hnd⟩ := hW
  have hA : DataW.TrodAll enc Try.prog W 0 (fun _ => true) true Try.f5.params.toList args.toList ds p := hA0
  rw [Try.params5] at hA hval
  obtain ⟨v0, vs0, d0, ds0, p0, q0, hargs, rfl, rfl, h0, r0⟩ := trodAll_cons hA
  obtain ⟨v1, vs1, d1, ds1, p1, q1, hargs1, rfl, rfl, h1, r1⟩ := trodAll_cons r0
  obtain ⟨v2, vs2, d2, ds2, p2, q2, hargs2, rfl, rfl, h2, r2⟩ := trodAll_cons r1
  obtain ⟨v3, vs3, d3, ds3, p3, q3, hargs3, rfl, rfl, h3, r3⟩ := trodAll_cons r2
  obtain ⟨rfl, rfl, rfl⟩ := trodAll_nil r3
  obtain rfl : args = #[v0, v1, v2, v3] := by cases args; simp_all
  obtain ⟨rfl, rfl⟩ := trodVars_none hV
  obtain ⟨i0, rfl, rfl, rfl, hw0⟩ := open_int Try.underlying2 (hval 0 2 v0 rfl rfl) h0
  obtain ⟨i1, rfl, rfl, rfl, hw1⟩ := open_int Try.underlying2 (hval 1 2 v1 rfl rfl) h1
  obtain ⟨a2, n2, c2, rfl⟩ := okWide_slice Try.underlying34 (hval 2 34 v2 rfl rfl)
  obtain ⟨a3, n3, c3, rfl⟩ := okWide_slice Try.underlying34 (hval 3 34 v3 rfl rfl)
  have hk2 := h2
  have hk3 := h3
  obtain ⟨f2, hf2⟩ := h2
  obtain ⟨f3, hf3⟩ := h3
  obtain ⟨ad, zs, cap, ec, hl2, hzc, hcm, hI, hT⟩ := resl_len f2 [.slice a2 n2 c2] _ (by simpa [Value.cells] using hf2)
  simp only [List.cons.injEq, Value.slice.injEq, and_true] at ec
  obtain ⟨rfl, rfl, rfl⟩ := ec
  obtain ⟨ad3, ys, cap3, ec, hl3, hzc3, hcm3, hI3, hT3⟩ := resl_len f3 [.slice a3 n3 c3] _ (by simpa [Value.cells] using hf3)
  simp only [List.cons.injEq, Value.slice.injEq, and_true] at ec
  obtain ⟨rfl, rfl, rfl⟩ := ec
  clear hA0 hval0
  simp only [List.append_nil, List.nil_append] at hW' hk
  have hbk : Rows.uptoBulkAll [DataW.lit (H := H) (.int .i64 i0), .lit (.int .i64 i1), d2, d3] ≤ 1048576 := of_decide_eq_true hk
  simp only [Rows.uptoBulkAll] at hbk
  have hz2 : zs.length ≤ 1048576 := Nat.le_trans hl2 (by show Rows.uptoBulk d2 ≤ _; omega)
  have hz3 : ys.length ≤ 1048576 := Nat.le_trans hl3 (by show Rows.uptoBulk d3 ≤ _; omega)
  have hlt : ∀ x ∈ p2 ++ p3, x.block < W.heap.size := fun x hx => by simpa using hW'.lt x (by simpa using hx)
  refine (law_more i0 i1 a2 a3 zs ys c2 c3 W hz2 hz3 hzc hI hI3 hT hT3).mono fun e W' ⟨he, hb⟩ => ?_
  subst he
  have e1 : Rows.retryMoreSpec.fn H ([.lit (.int .i64 i0), .lit (.int .i64 i1), d2, d3] ++ []) = { results := [.lit (.bool true)], args := [.lit (.int .i64 i0), .lit (.int .i64 i1), d2, d3] } := by simp [Rows.retryMoreSpec]
  refine ⟨_, rfl, _, _, _, [], p2 ++ p3, [], by simpa using hW', ?_, ?_, ?_, hb.frame _, fun h => by cases h⟩
  · rw [e1]; exact trodAll_mk1 (shut_bool Try.underlying4 true)
  · rw [e1]
    have t2 := Below.trod laidOut (by kernel_rfl) (of_decide_eq_true (by kernel_rfl)) hk2 hb (fun x hx => hlt x (by simp [hx]))
    have t3 := Below.trod laidOut (by kernel_rfl) (of_decide_eq_true (by kernel_rfl)) hk3 hb (fun x hx => hlt x (by simp [hx]))
    have := trodAll_cons_mk (shut_int Try.underlying2 hw0) (trodAll_cons_mk (shut_int Try.underlying2 hw1) (trodAll_cons_mk t2 (trodAll_cons_mk t3 trodAll_mk0)))
    simpa using this
  · rw [e1]; rfl

set_option maxRecDepth 100000 in
theorem lifted (os : Os) (started : os.Started) (H : Type) (enc : TypeId × Value → H) (F : Stop.Interp) :
    ReturnsInHanded {} Try.checked os 5 .any ((Rows.OpenSpec.upto Rows.retryMoreSpec).pre6 enc Try.prog Try.f5 Rows.retryMoreUptoRow.domain false)
      (((Rows.OpenSpec.upto Rows.retryMoreSpec).at F).post enc Try.prog Try.f5 false true false false) := by
  refine returnsInHanded_of_cond (C := Try.checked) (s := Rows.OpenSpec.upto Rows.retryMoreSpec) (k := Rows.uptoSmall) rfl own started (by kernel_rfl) Try.func5
    (OpenSpec.witness (enc := enc) (C := Try.checked) (s := Rows.OpenSpec.upto Rows.retryMoreSpec) (k := Rows.uptoSmall) rfl false ⟨#[], #[.int .i64 0, .int .i64 0, .slice none 0 0, .slice none 0 0], []⟩ 8 (by kernel_rfl) (by kernel_rfl) (by kernel_rfl)
      (x := ([.lit (.int .i64 0), .lit (.int .i64 0), .nil, .nil], [], [])) (by kernel_rfl) rfl (by kernel_rfl)) ?_
  intro W base args ds gs before hval hW _ hk _
  exact contract H enc W base args ds gs before hval hW hk

theorem retryMoreUpto_holds : Rows.RetryMoreUptoSaid :=
  OpenClaim.holds_of_cond 5 Try.f5 rfl rfl rfl rfl rfl rfl rfl ⟨rfl, rfl, rfl, rfl, rfl⟩ rfl rfl rfl rfl rfl (by kernel_rfl) Try.func5 (by kernel_rfl)
    (of_decide_eq_true (by kernel_rfl)) (by unfold Func.isWrapper; first | (rw [if_pos (by decide +kernel)]; kernel_rfl) | (rw [if_neg (by decide +kernel)]; exact ⟨rfl, rfl⟩))
    (fun os started H enc _ F => lifted os started H enc F)
#print axioms retryMoreUpto_holds
end Go.Proofs.Ytihmkjlmhjhocaa
