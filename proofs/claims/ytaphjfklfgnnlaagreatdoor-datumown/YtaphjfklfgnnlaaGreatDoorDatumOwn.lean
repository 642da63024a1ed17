/- For every value, valid or not, the law DatumOwn returns true, and the argument reads afterwards as it read before; the package-level variables that it reads start as the program's text lays them (the card ties them); nothing else is asked. -/
import Derived.Test.YtaphjfklfgnnlaaGreatDoorOwnL
import Derived.Test.YtaphjfklfgnnlaaGreatDoorDRd6
import Derived.Test.YtaphjfklfgnnlaaGreatDoorCards
import Derived.Test.YtaphjfklfgnnlaaGreatDoorTie
import Derived.ProofKit
import Derived.LaidMore
import Derived.LaidSub
import Derived.OpenShut
import Derived.Stop.Joined
import Derived.Lib.LaidTab
namespace Go.Proofs.YtaphjfklfgnnlaaGreatDoor
open Go.ChangeShapes Go.WideShapes Go.ChangeAt Go.WideMaps Go.WideElems Go.RowKit

theorem laidOut : laidOutB Tryz.prog = true := by kernel_rfl
theorem own : ownKnob Tryz.prog.godebug = none := by kernel_rfl
theorem gFields : Tryz.prog.globalNamed "conduit/datum.fields" = some 1 := by kernel_rfl
theorem tFields : (Tryz.prog.globals[1]?).map (·.type) = some 128 := by kernel_rfl

theorem fields_of_laid {W : World} (h : laidMetH Tryz.prog Rows.datumOwnRow.laid W) : Lib.TabIs Tryz.prog W "conduit/datum.fields" .u8 [0, 1, 1, 2, 4, 4, 1, 4, 8, 8, 5, 9, 0, 0] := by
  rw [MakeChecks.laidMetH_plain _ _ _ (by kernel_rfl)] at h
  have h1 := h.filter (fun x => x.1 == "conduit/datum.fields")
  exact Lib.tabIs_of_head (rest := []) gFields tFields Tryz.underlying128 Tryz.underlying5 (by kernel_rfl) (by kernel_rfl) h1
theorem gPow : Tryz.prog.globalNamed "internal/strconv.uint64pow10" = some 2 := by kernel_rfl
theorem tPow : (Tryz.prog.globals[2]?).map (·.type) = some 146 := by kernel_rfl
theorem pow_of_laid {W : World} (h : laidMetH Tryz.prog Rows.datumOwnRow.laid W) : Aw.Pow0 W := by
  rw [MakeChecks.laidMetH_plain _ _ _ (by kernel_rfl)] at h
  have h1 := h.filter (fun x => x.1 == "internal/strconv.uint64pow10")
  exact Lib.tabIs_of_head (rest := []) gPow tPow Tryz.underlying146 Tryz.underlying24 (by kernel_rfl) (by kernel_rfl) h1
theorem tab_of_laid {W : World} (h : laidMetH Tryz.prog Rows.datumOwnRow.laid W) : Aw.Tab W := by
  have t := fields_of_laid h
  have c1 : W.cell? ⟨1, 1, none⟩ = some (.int .u8 1) := t.cell gFields 1 (by decide)
  exact ⟨World.block_lt_of_cell? W _ c1, c1, t.cell gFields 4 (by decide), t.cell gFields 8 (by decide)⟩

/-- The door's own heap meets the condition. -/
theorem door_met (os : Os) (args : Array Value) : laidMetH Tryz.prog Rows.datumOwnRow.laid ((World.doorLaid Tryz.prog 67 os).forCall (fun _ _ => 0) ⟨#[], args, []⟩).memory := by
  rw [MakeChecks.laidMetH_plain _ _ _ (by kernel_rfl)]
  exact laidMet_of_run' 8 (by kernel_rfl) (by kernel_rfl)

set_option maxRecDepth 100000 in
theorem lifted (os : Os) (started : os.Started) (H : Type) (enc : TypeId × Value → H) :
    ReturnsInHanded {} Tryz.checked os 4 .any (fun w args => (Rows.datumOwnSpec.pre enc Tryz.prog Tryz.f4 [] false w args ∧ laidMetH Tryz.prog Rows.datumOwnRow.laid w) ∧ sizedMet enc Tryz.prog Tryz.f4 (OpenSpec.ofChange Rows.datumOwnSpec) false w args)
      (Rows.datumOwnSpec.post enc Tryz.prog Tryz.f4 false true false false) := by
  refine returnsInHanded_of_change_and (C := Tryz.checked) (X := fun w _ => laidMetH Tryz.prog Rows.datumOwnRow.laid w) (fun _ _ _ hh h => h.of_heap hh) own started (by kernel_rfl) Tryz.func4
    (ChangeSpec.witness_shaped (enc := enc) (C := Tryz.checked) (os := os) (X := fun w _ => laidMetH Tryz.prog Rows.datumOwnRow.laid w) false (World.doorLaid Tryz.prog 67 os) #[.agg #[.int .i64 0, .int .i64 0, .int .u64 0, .string ⟨#[]⟩, .slice none 0 0]] 8 rfl (World.shaped_of_RefB (by kernel_rfl) (by kernel_rfl)) (by kernel_rfl) (by kernel_rfl) (by kernel_rfl) (door_met os _)) ?_
  intro W base args ds gs before hval0 hW _ _ hL _
  have hval : ∀ (j : Nat) t v, Tryz.f4.params[j]? = some t → args[j]? = some v → Value.okWide Tryz.prog W .any base t v := hval0
  have hW' := hW
  obtain ⟨p, q, hA0, hV, rfl, hfz, hnd⟩ := hW
  have hA : DataW.TrodAll enc Tryz.prog W 0 (fun _ => true) true Tryz.f4.params.toList args.toList ds p := hA0
  rw [Tryz.params4] at hA hval
  obtain ⟨v0, d0, rfl, rfl, h0⟩ := trodAll_one hA
  obtain ⟨rfl, rfl⟩ := trodVars_none hV
  obtain ⟨cs0, rfl, hsz0⟩ := okWide_struct Tryz.underlying27 (hval 0 27 v0 rfl rfl)
  rw [Dt.tcellsN25] at hsz0
  obtain ⟨a0, b0, c0, e0, g0, rfl⟩ := Dt.array5 hsz0
  have hk0 := h0
  obtain ⟨f0, hf0⟩ := h0
  obtain ⟨t0, ht0, h60⟩ := Dt.rep64_of_trod f0 _ _ hf0
  have r0 : Dt.Rep W f0 [a0, b0, c0, e0, g0] t0 := by simpa [Value.cells] using ht0
  have hT := tab_of_laid hL
  have hP := pow_of_laid hL
  clear hA0 hval0
  simp only [List.append_nil] at hW'
  have hlt : ∀ x ∈ p, x.block < W.heap.size := fun x hx => by simpa using hW'.lt x hx
  refine (Dt.law_own f0 t0 a0 b0 c0 e0 g0 W r0 h60 hT hP).mono fun e W' ⟨he, hb⟩ => ?_
  subst he
  have e1 : Rows.datumOwnSpec.fn H ([d0] ++ []) = { results := [.lit (.bool true)], args := [d0] } := by simp [Rows.datumOwnSpec]
  refine ⟨_, rfl, _, _, _, [], p, [], by simpa using hW', ?_, ?_, ?_, hb.frame _, fun h => by cases h⟩
  · rw [e1]; exact trodAll_mk1 (shut_bool Tryz.underlying4 true)
  · rw [e1]; exact trodAll_mk1 (Below.trod laidOut (by kernel_rfl) (of_decide_eq_true (by kernel_rfl)) hk0 hb hlt)
  · rw [e1]; rfl

theorem datumOwn_said : Rows.DatumOwnSaid :=
  OpenClaim.holds_of_wide 4 Tryz.f4 rfl rfl rfl rfl rfl rfl rfl ⟨rfl, rfl, rfl, rfl, rfl⟩ rfl rfl rfl rfl rfl (by kernel_rfl) Tryz.func4 (by kernel_rfl)
    (of_decide_eq_true (by kernel_rfl)) (by unfold Func.isWrapper; first | (rw [if_pos (by decide +kernel)]; kernel_rfl) | (rw [if_neg (by decide +kernel)]; exact ⟨rfl, rfl⟩))
    (fun os started H enc _ => lifted os started H enc)

/-- The tied card. -/
theorem datumOwn_holds : Rows.DatumOwnCardSaid :=
  Claim7.holds_tied_plain_at .later [] _ _ _ _ datumOwn_said (fun _ h => by cases h) (by kernel_rfl) (fun _ h => by cases h) datumOwn_row_tie rfl ⟨rfl, rfl⟩ (by kernel_rfl) rfl
    (fun f fn hf hfn => by
      obtain rfl : f = 4 := Option.some.inj ((show Tryz.prog.funcNamed "conduit/conduitlaw01.DatumOwn" = some 4 by kernel_rfl).symm.trans hf) |>.symm
      obtain rfl : fn = Tryz.f4 := (Option.some.inj (Tryz.func4.symm.trans hfn)).symm
      exact ⟨by kernel_rfl, fun j t ht => by
        rw [Tryz.params4] at ht
        have hm : t ∈ [27] := by simpa using Array.mem_of_getElem? ht
        have hall : ([27].all fun u => !Tryz.prog.wantsStandIn u) = true := by kernel_rfl
        exact (show Tryz.prog.wantsStandIn t = false by simpa using List.all_eq_true.1 hall t hm)⟩)
    (by kernel_rfl)
#print axioms datumOwn_holds
end Go.Proofs.YtaphjfklfgnnlaaGreatDoor
