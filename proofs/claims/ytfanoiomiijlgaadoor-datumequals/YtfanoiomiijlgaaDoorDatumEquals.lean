/- For every two values, valid or not, the law DatumEquals returns true, and the arguments read afterwards as they read before; the package-level variables that it reads start as the program's text lays them (the card ties them); nothing else is asked. -/
import Derived.Test.YtfanoiomiijlgaaDoorReads
import Derived.Test.YtfanoiomiijlgaaDoorLawEq
import Derived.Test.YtfanoiomiijlgaaDoorCards
import Derived.Test.YtfanoiomiijlgaaDoorTie
import Derived.ProofKit
import Derived.LaidMore
import Derived.LaidSub
import Derived.OpenShut
import Derived.Stop.Joined
import Derived.Lib.LaidTab
namespace Go.Proofs.YtfanoiomiijlgaaDoor
open Go.ChangeShapes Go.WideShapes Go.ChangeAt Go.WideMaps Go.WideElems Go.RowKit

theorem own : ownKnob Tryd.prog.godebug = none := by kernel_rfl
theorem laidOut : laidOutB Tryd.prog = true := by kernel_rfl
theorem gFields : Tryd.prog.globalNamed "conduit/datum.fields" = some 1 := by kernel_rfl
theorem tFields : (Tryd.prog.globals[1]?).map (·.type) = some 87 := by kernel_rfl
theorem gPow : Tryd.prog.globalNamed "internal/strconv.uint64pow10" = some 2 := by kernel_rfl
theorem tPow : (Tryd.prog.globals[2]?).map (·.type) = some 125 := by kernel_rfl

theorem fields_of_laid {W : World} (h : laidMetH Tryd.prog Rows.datumEqualsRow.laid W) : Lib.TabIs Tryd.prog W "conduit/datum.fields" .u8 [0, 1, 1, 2, 4, 4, 1, 4, 8, 8, 5, 9, 0, 0] := by
  rw [MakeChecks.laidMetH_plain _ _ _ (by kernel_rfl)] at h
  have h1 := h.filter (fun x => x.1 == "conduit/datum.fields")
  exact Lib.tabIs_of_head (rest := []) gFields tFields Tryd.underlying87 Tryd.underlying5 (by kernel_rfl) (by kernel_rfl) h1
theorem pow_of_laid {W : World} (h : laidMetH Tryd.prog Rows.datumEqualsRow.laid W) : Pow0 W := by
  rw [MakeChecks.laidMetH_plain _ _ _ (by kernel_rfl)] at h
  have h1 := h.filter (fun x => x.1 == "internal/strconv.uint64pow10")
  exact Lib.tabIs_of_head (rest := []) gPow tPow Tryd.underlying125 Tryd.underlying22 (by kernel_rfl) (by kernel_rfl) h1
theorem tab_of_laid {W : World} (h : laidMetH Tryd.prog Rows.datumEqualsRow.laid W) : Tab14 W := by
  have t := fields_of_laid h
  have c1 : W.cell? ⟨1, 1, none⟩ = some (.int .u8 1) := t.cell gFields 1 (by decide)
  exact ⟨World.block_lt_of_cell? W _ c1, fun j hj => t.cell gFields j hj⟩

theorem door_met (os : Os) (args : Array Value) : laidMetH Tryd.prog Rows.datumEqualsRow.laid ((World.doorLaid Tryd.prog 67 os).forCall (fun _ _ => 0) ⟨#[], args, []⟩).memory := by
  rw [MakeChecks.laidMetH_plain _ _ _ (by kernel_rfl)]
  exact laidMet_of_run' 8 (by kernel_rfl) (by kernel_rfl)

theorem array5 {cs : Array Value} (h : cs.size = 5) : ∃ c0 c1 c2 c3 c4, cs = #[c0, c1, c2, c3, c4] := by
  obtain ⟨l⟩ := cs
  match l, h with
  | [c0, c1, c2, c3, c4], _ => exact ⟨c0, c1, c2, c3, c4, rfl⟩

set_option maxRecDepth 100000 in
theorem lifted (os : Os) (started : os.Started) (H : Type) (enc : TypeId × Value → H) :
    ReturnsInHanded {} Tryd.checked os 4 .any (fun w args => (Rows.datumEqualsSpec.pre enc Tryd.prog Tryd.f4 [] false w args ∧ laidMetH Tryd.prog Rows.datumEqualsRow.laid w) ∧ sizedMet enc Tryd.prog Tryd.f4 (OpenSpec.ofChange Rows.datumEqualsSpec) false w args)
      (Rows.datumEqualsSpec.post enc Tryd.prog Tryd.f4 false true false false) := by
  refine returnsInHanded_of_change_and (C := Tryd.checked) (X := fun w _ => laidMetH Tryd.prog Rows.datumEqualsRow.laid w) (fun _ _ _ hh h => h.of_heap hh) own started (by kernel_rfl) Tryd.func4
    (ChangeSpec.witness_shaped (enc := enc) (C := Tryd.checked) (os := os) (X := fun w _ => laidMetH Tryd.prog Rows.datumEqualsRow.laid w) false (World.doorLaid Tryd.prog 67 os) #[.agg #[.int .i64 0, .int .i64 0, .int .u64 0, .string ⟨#[]⟩, .slice none 0 0], .agg #[.int .i64 0, .int .i64 0, .int .u64 0, .string ⟨#[]⟩, .slice none 0 0]] 8 rfl (World.shaped_of_RefB (by kernel_rfl) (by kernel_rfl)) (by kernel_rfl) (by kernel_rfl) (by kernel_rfl) (door_met os _)) ?_
  intro W base args ds gs before hval0 hW _ _ hL _
  have hval : ∀ (j : Nat) t v, Tryd.f4.params[j]? = some t → args[j]? = some v → Value.okWide Tryd.prog W .any base t v := hval0
  have hW' := hW
  obtain ⟨p, q, hA0, hV, rfl, hfz, hnd⟩ := hW
  have hA : DataW.TrodAll enc Tryd.prog W 0 (fun _ => true) true Tryd.f4.params.toList args.toList ds p := hA0
  rw [Tryd.params4] at hA hval
  obtain ⟨v0, v1, d0, d1, p0, p1, rfl, rfl, rfl, h0, h1⟩ := trodAll_two hA
  obtain ⟨rfl, rfl⟩ := trodVars_none hV
  have one : ∀ (j : Nat) (v : Value) (d : DataW H) (p : List MemPlace), (#[25, 25] : Array TypeId)[j]? = some 25 → (#[v0, v1] : Array Value)[j]? = some v → DataW.Trod enc Tryd.prog W 0 (fun _ => true) true 25 v d p →
      ∃ (fuel : Nat) (t : Tr fuel) (k i u : Int) (s : ByteArray) (ad : Option Addr) (len cap : Nat), v = .agg #[.int .i64 k, .int .i64 i, .int .u64 u, .string s, .slice ad len cap] ∧ Rep W fuel [.int .i64 k, .int .i64 i, .int .u64 u, .string s, .slice ad len cap] t := by
    intro j v d p hj hv h
    obtain ⟨cs, rfl, hsz5⟩ := okWide_struct Tryd.underlying25 (hval j 25 v hj hv)
    rw [tcellsN25] at hsz5
    obtain ⟨c0, c1, c2, c3, c4, rfl⟩ := array5 hsz5
    obtain ⟨fuel, hf⟩ := h
    obtain ⟨t, ht⟩ := rep_of_trod fuel _ _ hf
    have ht' : Rep W fuel [c0, c1, c2, c3, c4] t := by simpa [Value.cells] using ht
    obtain ⟨k, i, u, s, ad, len, cap, rfl, rfl, rfl, rfl, rfl⟩ := rep_shape ht'
    exact ⟨fuel, t, k, i, u, s, ad, len, cap, rfl, ht'⟩
  obtain ⟨na, ta, ka, ia, ua, sa, pa, la, ca, rfl, ra⟩ := one 0 v0 d0 p0 rfl rfl h0
  obtain ⟨nb, tb, kb, ib, ub, sb, pb, lb, cb, rfl, rb⟩ := one 1 v1 d1 p1 rfl rfl h1
  have hT := tab_of_laid hL
  have hP := pow_of_laid hL
  clear hA0 hval0 one
  simp only [List.append_nil] at hW'
  have hlt : ∀ x ∈ p0 ++ p1, x.block < W.heap.size := fun x hx => by simpa using hW'.lt x (by simpa using hx)
  have hl0 : ∀ x ∈ p0, x.block < W.heap.size := fun x hx => hlt x (by simp [hx])
  have hl1 : ∀ x ∈ p1, x.block < W.heap.size := fun x hx => hlt x (by simp [hx])
  refine (law_equals na nb ta tb ka ia ua kb ib ub sa sb pa pb la ca lb cb W ra rb hT hP).mono fun e W' ⟨he, hb⟩ => ?_
  subst he
  have e1 : Rows.datumEqualsSpec.fn H ([d0, d1] ++ []) = { results := [.lit (.bool true)], args := [d0, d1] } := by simp [Rows.datumEqualsSpec]
  refine ⟨_, rfl, _, _, _, [], p0 ++ p1, [], by simpa using hW', ?_, ?_, ?_, hb.frame _, fun h => by cases h⟩
  · rw [e1]; exact trodAll_mk1 (shut_bool Tryd.underlying4 true)
  · rw [e1]; exact trodAll_mk2 (Below.trod laidOut (by kernel_rfl) (of_decide_eq_true (by kernel_rfl)) h0 hb hl0) (Below.trod laidOut (by kernel_rfl) (of_decide_eq_true (by kernel_rfl)) h1 hb hl1)
  · rw [e1]; rfl

theorem datumEquals_said : Rows.DatumEqualsSaid :=
  OpenClaim.holds_of_wide 4 Tryd.f4 rfl rfl rfl rfl rfl rfl rfl ⟨rfl, rfl, rfl, rfl, rfl⟩ rfl rfl rfl rfl rfl (by kernel_rfl) Tryd.func4 (by kernel_rfl)
    (of_decide_eq_true (by kernel_rfl)) (by unfold Func.isWrapper; first | (rw [if_pos (by decide +kernel)]; kernel_rfl) | (rw [if_neg (by decide +kernel)]; exact ⟨rfl, rfl⟩))
    (fun os started H enc _ => lifted os started H enc)

/-- The tied card. -/
theorem datumEquals_holds : Rows.DatumEqualsCardSaid :=
  Claim7.holds_tied_plain_at .later [] _ _ _ _ datumEquals_said (fun _ h => by cases h) (by kernel_rfl) (fun _ h => by cases h) datumEquals_row_tie rfl ⟨rfl, rfl⟩ (by kernel_rfl) rfl
    (fun f fn hf hfn => by
      obtain rfl : f = 4 := Option.some.inj ((show Tryd.prog.funcNamed "conduit/conduitlaw01.DatumEquals" = some 4 by kernel_rfl).symm.trans hf) |>.symm
      obtain rfl : fn = Tryd.f4 := (Option.some.inj (Tryd.func4.symm.trans hfn)).symm
      exact ⟨by kernel_rfl, fun j t ht => by
        rw [Tryd.params4] at ht
        have hm : t ∈ [25, 25] := by simpa using Array.mem_of_getElem? ht
        have hall : ([25, 25].all fun u => !Tryd.prog.wantsStandIn u) = true := by kernel_rfl
        exact (show Tryd.prog.wantsStandIn t = false by simpa using List.all_eq_true.1 hall t hm)⟩)
    (by kernel_rfl)
#print axioms datumEquals_holds
end Go.Proofs.YtfanoiomiijlgaaDoor
