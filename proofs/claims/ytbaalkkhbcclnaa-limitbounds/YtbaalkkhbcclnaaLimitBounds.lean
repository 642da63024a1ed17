/- For any state, numbers and steps the law LimitBounds returns true, and they read afterwards as they read before; nothing else is asked. -/
import Derived.Test.YtbaalkkhbcclnaaLawBo
import Derived.ProofKit
import Derived.OpenShut
import Derived.Stop.Joined
import Derived.Lib.SmallJoins
import Derived.Carry
namespace Go.Proofs.Ytbaalkkhbcclnaa
open Go.ChangeShapes Go.WideShapes Go.ChangeAt Go.WideMaps Go.WideElems Go.RowKit Go.Joins

theorem own : ownKnob Try.prog.godebug = none := by kernel_rfl
theorem laidOut : laidOutB Try.prog = true := by kernel_rfl
theorem i64_of {i : Int} (h : (Lit.int .i64 i).wf = true) : -9223372036854775808 ≤ i ∧ i ≤ 9223372036854775807 := by
  simp [Lit.wf] at h
  have h1 : IntKind.i64.min = -9223372036854775808 := by decide
  have h2 : IntKind.i64.max = 9223372036854775807 := by decide
  omega

theorem lt_of_cell {W : World} {g of : Nat} {v : Value} (h : W.cell? ⟨g, of, none⟩ = some v) : g < W.heap.size := by
  refine Decidable.byContradiction fun hn => ?_
  have : W.heap[g]? = none := by simp; omega
  simp [World.cell?, this] at h
/-- The numbers that a slice reads as. -/
theorem ints_of {H : Type} {enc : TypeId × Value → H} {W : World} {base : Nat} {spare : Nat → Bool} {held : Bool} {f : Nat} {ad : Option Addr} {n c : Nat} {x : DataW H × List MemPlace} (h : DataW.trod enc Try.prog W base spare held f 32 [.slice ad n c] = some x) :
    ∃ zs : List Int, n = zs.length ∧ ∀ j (h : j < zs.length), ∃ g of, ad = some ⟨g, of, none⟩ ∧ g < W.heap.size ∧ W.cell? ⟨g, of + j, none⟩ = some (.int .i64 zs[j]) := by
  rcases open_ints Try.underlying32 Try.underlying2 (show Try.prog.cellsOf 2 = 1 by kernel_rfl) h with ⟨hcs, hx⟩ | ⟨a, len', cap', zs, hcs, _, hl, hm, hz, hx, hcell, hwz⟩
  · simp only [List.cons.injEq, Value.slice.injEq, and_true] at hcs
    obtain ⟨rfl, rfl, rfl⟩ := hcs
    exact ⟨[], rfl, fun j h => absurd h (by simp)⟩
  · simp only [List.cons.injEq, Value.slice.injEq, and_true] at hcs
    obtain ⟨rfl, rfl, rfl⟩ := hcs
    have hlen : n ≤ zs.length := by rw [hz]; split <;> omega
    refine ⟨zs.take n, by rw [List.length_take]; omega, fun j hj => ?_⟩
    rw [List.length_take] at hj
    obtain ⟨b, off, rfl, hb⟩ := ints_at hcell (by omega)
    have hc := hb j (by omega)
    refine ⟨b, off, rfl, ?_, ?_⟩
    · exact lt_of_cell hc
    · rw [hc, List.getElem_take, List.getD_eq_getElem?_getD, List.getElem?_eq_getElem (by omega)]
      rfl

set_option maxRecDepth 100000 in
theorem lifted (os : Os) (started : os.Started) (H : Type) (enc : TypeId × Value → H) :
    ReturnsInHanded {} Try.checked os 5 .any (Rows.limitBoundsSpec.pre6 enc Try.prog Try.f5 [] false)
      (Rows.limitBoundsSpec.post enc Try.prog Try.f5 false true false false) := by
  refine returnsInHanded_of_change (C := Try.checked) own started (by kernel_rfl) Try.func5
    (ChangeSpec.witness6 (enc := enc) (C := Try.checked) false ⟨#[], #[.agg #[.int .i64 0, .int .i64 0], .int .i64 0, .int .i64 0, .slice none 0 0], []⟩ 8 (by kernel_rfl) (by kernel_rfl) (by kernel_rfl) (by kernel_rfl)) ?_
  intro W base args ds gs before hval0 hW _ _
  have hval : ∀ (j : Nat) t v, Try.f5.params[j]? = some t → args[j]? = some v → Value.okWide Try.prog W .any base t v := hval0
  have hW' := hW
  obtain ⟨p, q, hA0, hV, rfl, hfz, hnd⟩ := hW
  have hA : DataW.TrodAll enc Try.prog W 0 (fun _ => true) true Try.f5.params.toList args.toList ds p := hA0
  rw [Try.params5] at hA hval
  obtain ⟨v0, v1, v2, v3, d0, d1, d2, d3, p0, p1, p2, p3, rfl, rfl, rfl, h0, h1, h2, h3⟩ := trodAll_four hA
  obtain ⟨rfl, rfl⟩ := trodVars_none hV
  obtain ⟨c0, c1, y0, y1, m, rfl, rfl, rfl, hy0, hy1⟩ := open_agg2 Try.underlying23 (by kernel_rfl) (show Try.prog.cellsOf 23 = 2 by kernel_rfl) (hval 0 23 v0 rfl rfl) h0
  obtain ⟨x0, e0, rfl, wa⟩ := DataW.trod_int Try.underlying2 hy0
  obtain ⟨x1, e1, rfl, wb⟩ := DataW.trod_int Try.underlying2 hy1
  simp at e0 e1; subst e0 e1
  obtain ⟨i1, rfl, rfl, rfl, hw1⟩ := open_int Try.underlying2 (hval 1 2 v1 rfl rfl) h1
  obtain ⟨i2, rfl, rfl, rfl, hw2⟩ := open_int Try.underlying2 (hval 2 2 v2 rfl rfl) h2
  obtain ⟨a3, n3, c3, rfl⟩ := okWide_slice Try.underlying32 (hval 3 32 v3 rfl rfl)
  have hk := h3
  obtain ⟨f3, hf3⟩ := h3
  have hlt0 : ∀ x ∈ p3, x.block < W.heap.size := fun x hx => by have h9 := hW'; simp only [List.append_nil] at h9; simpa using h9.lt x (by simp [hx])
  obtain ⟨zs, rfl, hz⟩ := ints_of (by simpa [Value.cells] using hf3)
  clear hA0 hval0
  simp only [List.append_nil] at hW'
  refine (law_bounds x0 x1 i1 i2 a3 zs c3 W hz).mono fun e W' ⟨he, hb⟩ => ?_
  subst he
  have e1 : Rows.limitBoundsSpec.fn H ([.agg [.lit (.int .i64 x0), .lit (.int .i64 x1)], .lit (.int .i64 i1), .lit (.int .i64 i2), d3] ++ []) = { results := [.lit (.bool true)], args := [.agg [.lit (.int .i64 x0), .lit (.int .i64 x1)], .lit (.int .i64 i1), .lit (.int .i64 i2), d3] } := by simp [Rows.limitBoundsSpec]
  refine ⟨_, rfl, _, _, _, [], p3, [], by simpa using hW', ?_, ?_, ?_, hb.frame _, fun h => by cases h⟩
  · rw [e1]; exact trodAll_mk1 (shut_bool Try.underlying4 true)
  · rw [e1]; exact trodAll_mk4 (shut_agg2 (y0 := (.lit (.int .i64 x0), [])) (y1 := (.lit (.int .i64 x1), [])) Try.underlying23 (by kernel_rfl) (show Try.prog.cellsOf 23 = 2 by kernel_rfl) ⟨1, by simp [DataW.trod, Try.underlying2, wa]⟩ ⟨1, by simp [DataW.trod, Try.underlying2, wb]⟩) (shut_int Try.underlying2 hw1) (shut_int Try.underlying2 hw2) (Below.trod laidOut (by kernel_rfl) (of_decide_eq_true (by kernel_rfl)) hk hb hlt0)
  · rw [e1]; rfl

theorem limitBounds_holds : Rows.LimitBoundsSaid :=
  OpenClaim.holds_of_wide 5 Try.f5 rfl rfl rfl rfl rfl rfl rfl ⟨rfl, rfl, rfl, rfl, rfl⟩ rfl rfl rfl rfl rfl (by kernel_rfl) Try.func5 (by kernel_rfl)
    (of_decide_eq_true (by kernel_rfl)) (by unfold Func.isWrapper; first | (rw [if_pos (by decide +kernel)]; kernel_rfl) | (rw [if_neg (by decide +kernel)]; exact ⟨rfl, rfl⟩))
    (fun os started H enc _ => lifted os started H enc)
#print axioms limitBounds_holds
end Go.Proofs.Ytbaalkkhbcclnaa
