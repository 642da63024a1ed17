/- For every list of values, valid or not, the law DatumGrouped returns true, and the argument reads afterwards as it read before; the package-level variables that it reads start as the program's text lays them (the card ties them); nothing else is asked. -/
import Derived.Test.YtgpbnmlcfimnnaaDoorReads
import Derived.Test.YtgpbnmlcfimnnaaDoorLawGd
import Derived.Test.YtgpbnmlcfimnnaaDoorCards
import Derived.Test.YtgpbnmlcfimnnaaDoorTie
import Derived.ProofKit
import Derived.LaidMore
import Derived.LaidSub
import Derived.OpenShut
import Derived.Stop.Joined
import Derived.Lib.LaidTab
namespace Go.Proofs.YtgpbnmlcfimnnaaDoor
open Go.ChangeShapes Go.WideShapes Go.ChangeAt Go.WideMaps Go.WideElems Go.RowKit

theorem own : ownKnob Tryd.prog.godebug = none := by kernel_rfl
theorem laidOut : laidOutB Tryd.prog = true := by kernel_rfl
theorem gFields : Tryd.prog.globalNamed "conduit/datum.fields" = some 1 := by kernel_rfl
theorem tFields : (Tryd.prog.globals[1]?).map (·.type) = some 95 := by kernel_rfl
theorem gPow : Tryd.prog.globalNamed "internal/strconv.uint64pow10" = some 2 := by kernel_rfl
theorem tPow : (Tryd.prog.globals[2]?).map (·.type) = some 133 := by kernel_rfl

theorem fields_of_laid {W : World} (h : laidMetH Tryd.prog Rows.datumGroupedRow.laid W) : Lib.TabIs Tryd.prog W "conduit/datum.fields" .u8 [0, 1, 1, 2, 4, 4, 1, 4, 8, 8, 5, 9, 0, 0] := by
  rw [MakeChecks.laidMetH_plain _ _ _ (by kernel_rfl)] at h
  have h1 := h.filter (fun x => x.1 == "conduit/datum.fields")
  exact Lib.tabIs_of_head (rest := []) gFields tFields Tryd.underlying95 Tryd.underlying5 (by kernel_rfl) (by kernel_rfl) h1
theorem pow_of_laid {W : World} (h : laidMetH Tryd.prog Rows.datumGroupedRow.laid W) : Pow0 W := by
  rw [MakeChecks.laidMetH_plain _ _ _ (by kernel_rfl)] at h
  have h1 := h.filter (fun x => x.1 == "internal/strconv.uint64pow10")
  exact Lib.tabIs_of_head (rest := []) gPow tPow Tryd.underlying133 Tryd.underlying22 (by kernel_rfl) (by kernel_rfl) h1
theorem tab_of_laid {W : World} (h : laidMetH Tryd.prog Rows.datumGroupedRow.laid W) : Tab W := by
  have t := fields_of_laid h
  have c1 : W.cell? ⟨1, 1, none⟩ = some (.int .u8 1) := t.cell gFields 1 (by decide)
  exact ⟨World.block_lt_of_cell? W _ c1, c1, t.cell gFields 4 (by decide), t.cell gFields 8 (by decide)⟩

theorem door_met (os : Os) (args : Array Value) : laidMetH Tryd.prog Rows.datumGroupedRow.laid ((World.doorLaid Tryd.prog 67 os).forCall (fun _ _ => 0) ⟨#[], args, []⟩).memory := by
  rw [MakeChecks.laidMetH_plain _ _ _ (by kernel_rfl)]
  exact laidMet_of_run' 8 (by kernel_rfl) (by kernel_rfl)

set_option maxRecDepth 100000 in
theorem list_of_trod {H : Type} {enc : TypeId × Value → H} {w : World} {base : Nat} {sp : Nat → Bool} {held : Bool} (fuel : Nat) (a0 : Option Addr) (len cap : Nat) (x : DataW H × List MemPlace)
    (h : DataW.trod enc Tryd.prog w base sp held fuel 23 [.slice a0 len cap] = some x) : ∃ (n : Nat) (ts : List (Tr n)), ts.length = len ∧ len ≤ maxLen ∧ (ts = [] ∨ ∃ g o, a0 = some ⟨g, o, none⟩ ∧ ∀ (j : Nat) (t' : Tr n), ts[j]? = some t' → ∃ v0 v1 v2 v3 v4, w.cell? ⟨g, o + j * 5, none⟩ = some v0 ∧ w.cell? ⟨g, o + j * 5 + 1, none⟩ = some v1 ∧ w.cell? ⟨g, o + j * 5 + 2, none⟩ = some v2 ∧ w.cell? ⟨g, o + j * 5 + 3, none⟩ = some v3 ∧ w.cell? ⟨g, o + j * 5 + 4, none⟩ = some v4 ∧ Rep w n [v0, v1, v2, v3, v4] t') := by
  rcases DataW.trod_slice Tryd.underlying23 h with ⟨e4, -⟩ | ⟨a, len', cap', elems, rest, m, hm, e4, -, -, hlc, hcm, hel, hat, -, -⟩
  · simp at e4
    obtain ⟨-, rfl, -⟩ := e4
    exact ⟨0, [], rfl, by unfold maxLen; omega, .inl rfl⟩
  · simp at e4
    obtain ⟨rfl, rfl, rfl⟩ := e4
    rw [tcellsN25] at hat
    have kid : ∀ j, j < len → ∃ t : Tr m, ∃ v0 v1 v2 v3 v4, w.cell? (a.add (j * 5)) = some v0 ∧ w.cell? ((a.add (j * 5)).add 1) = some v1 ∧ w.cell? ((a.add (j * 5)).add 2) = some v2 ∧ w.cell? ((a.add (j * 5)).add 3) = some v3 ∧ w.cell? ((a.add (j * 5)).add 4) = some v4 ∧ Rep w m [v0, v1, v2, v3, v4] t := by
      intro j hj
      have hx := hat j hj
      rw [List.getElem?_eq_getElem (by omega)] at hx
      obtain ⟨cs', hc, ht⟩ := Option.bind_eq_some_iff.1 hx
      obtain ⟨-, hcl, hcc⟩ := World.cells?_some hc
      obtain ⟨t, ht'⟩ := rep_of_trod m cs' _ ht
      match cs', hcl with
      | [v0, v1, v2, v3, v4], _ =>
        exact ⟨t, v0, v1, v2, v3, v4, by simpa [Addr.add] using hcc 0 (by decide), hcc 1 (by decide), hcc 2 (by decide), hcc 3 (by decide), hcc 4 (by decide), ht'⟩
    obtain ⟨ks, hkl, hkp⟩ := list_of _ len kid
    refine ⟨m, ks, hkl, by omega, ?_⟩
    cases hks : ks with
    | nil => exact .inl rfl
    | cons t0 ts =>
      right
      have h00 := hkp 0 t0 (by rw [hks]; rfl)
      obtain ⟨b, off, spot⟩ := a
      obtain ⟨v0, _, _, _, _, hc0, _⟩ := h00
      have hspot : spot = none := by simpa [Addr.add] using World.cell?_spot hc0
      subst hspot
      refine ⟨b, off, rfl, fun j t' hj => ?_⟩
      obtain ⟨v0, v1, v2, v3, v4, x0, x1, x2, x3, x4, r⟩ := hkp j t' (by rw [hks]; exact hj)
      simp only [add_plain] at x0 x1 x2 x3 x4
      exact ⟨v0, v1, v2, v3, v4, x0, x1, x2, x3, x4, r⟩

set_option maxRecDepth 100000 in
theorem lifted (os : Os) (started : os.Started) (H : Type) (enc : TypeId × Value → H) :
    ReturnsInHanded {} Tryd.checked os 7 .any (fun w args => (Rows.datumGroupedSpec.pre enc Tryd.prog Tryd.f7 [] false w args ∧ laidMetH Tryd.prog Rows.datumGroupedRow.laid w) ∧ sizedMet enc Tryd.prog Tryd.f7 (OpenSpec.ofChange Rows.datumGroupedSpec) false w args)
      (Rows.datumGroupedSpec.post enc Tryd.prog Tryd.f7 false true false false) := by
  refine returnsInHanded_of_change_and (C := Tryd.checked) (X := fun w _ => laidMetH Tryd.prog Rows.datumGroupedRow.laid w) (fun _ _ _ hh h => h.of_heap hh) own started (by kernel_rfl) Tryd.func7
    (ChangeSpec.witness_shaped (enc := enc) (C := Tryd.checked) (os := os) (X := fun w _ => laidMetH Tryd.prog Rows.datumGroupedRow.laid w) false (World.doorLaid Tryd.prog 67 os) #[.slice none 0 0] 8 rfl (World.shaped_of_RefB (by kernel_rfl) (by kernel_rfl)) (by kernel_rfl) (by kernel_rfl) (by kernel_rfl) (door_met os _)) ?_
  intro W base args ds gs before hval0 hW _ _ hL _
  have hval : ∀ (j : Nat) t v, Tryd.f7.params[j]? = some t → args[j]? = some v → Value.okWide Tryd.prog W .any base t v := hval0
  have hW' := hW
  obtain ⟨p, q, hA0, hV, rfl, hfz, hnd⟩ := hW
  have hA : DataW.TrodAll enc Tryd.prog W 0 (fun _ => true) true Tryd.f7.params.toList args.toList ds p := hA0
  rw [Tryd.params7] at hA hval
  obtain ⟨v0, d0, rfl, rfl, h0⟩ := trodAll_one hA
  obtain ⟨rfl, rfl⟩ := trodVars_none hV
  obtain ⟨a0, len, cap, rfl⟩ := okWide_slice Tryd.underlying23 (hval 0 23 v0 rfl rfl)
  have h0k := h0
  obtain ⟨fuel, hf⟩ := h0
  obtain ⟨n, ts, hl, hm, hk⟩ := list_of_trod fuel a0 len cap (d0, p) (by simpa [Value.cells] using hf)
  subst hl
  have hT := tab_of_laid hL
  have hP := pow_of_laid hL
  clear hA0 hval0
  simp only [List.append_nil] at hW'
  have hlt : ∀ x ∈ p, x.block < W.heap.size := fun x hx => by simpa using hW'.lt x hx
  refine (law_grouped n ts a0 cap W hm hk hT hP).mono fun e W' ⟨he, hb⟩ => ?_
  subst he
  have e1 : Rows.datumGroupedSpec.fn H ([d0] ++ []) = { results := [.lit (.bool true)], args := [d0] } := by simp [Rows.datumGroupedSpec]
  refine ⟨_, rfl, _, _, _, [], p, [], hW', ?_, ?_, ?_, hb.frame _, fun h => by cases h⟩
  · rw [e1]; exact trodAll_mk1 (shut_bool Tryd.underlying4 true)
  · rw [e1]; exact trodAll_mk1 (Below.trod laidOut (by kernel_rfl) (of_decide_eq_true (by kernel_rfl)) h0k hb hlt)
  · rw [e1]; rfl

theorem datumGrouped_said : Rows.DatumGroupedSaid :=
  OpenClaim.holds_of_wide 7 Tryd.f7 rfl rfl rfl rfl rfl rfl rfl ⟨rfl, rfl, rfl, rfl, rfl⟩ rfl rfl rfl rfl rfl (by kernel_rfl) Tryd.func7 (by kernel_rfl)
    (of_decide_eq_true (by kernel_rfl)) (by unfold Func.isWrapper; first | (rw [if_pos (by decide +kernel)]; kernel_rfl) | (rw [if_neg (by decide +kernel)]; exact ⟨rfl, rfl⟩))
    (fun os started H enc _ => lifted os started H enc)

/-- The tied card. -/
theorem datumGrouped_holds : Rows.DatumGroupedCardSaid :=
  Claim7.holds_tied_plain_at .later [] _ _ _ _ datumGrouped_said (fun _ h => by cases h) (by kernel_rfl) (fun _ h => by cases h) datumGrouped_row_tie rfl ⟨rfl, rfl⟩ (by kernel_rfl) rfl
    (fun f fn hf hfn => by
      obtain rfl : f = 7 := Option.some.inj ((show Tryd.prog.funcNamed "conduit/conduitlaw01.DatumGrouped" = some 7 by kernel_rfl).symm.trans hf) |>.symm
      obtain rfl : fn = Tryd.f7 := (Option.some.inj (Tryd.func7.symm.trans hfn)).symm
      exact ⟨by kernel_rfl, fun j t ht => by
        rw [Tryd.params7] at ht
        have hm : t ∈ [23] := by simpa using Array.mem_of_getElem? ht
        have hall : ([23].all fun u => !Tryd.prog.wantsStandIn u) = true := by kernel_rfl
        exact (show Tryd.prog.wantsStandIn t = false by simpa using List.all_eq_true.1 hall t hm)⟩)
    (by kernel_rfl)
#print axioms datumGrouped_holds
end Go.Proofs.YtgpbnmlcfimnnaaDoor
