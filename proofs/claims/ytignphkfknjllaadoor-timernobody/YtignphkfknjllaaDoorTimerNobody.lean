/- For every truth value and two numbers the law TimerNobody returns true, and each argument reads afterwards as it read before; the package-level variable that it reads starts as the program's text lays it (the card ties it); nothing else is asked. -/
import Derived.Test.YtignphkfknjllaaDoorLawN
import Derived.Test.YtignphkfknjllaaDoorXRd
import Derived.Test.YtignphkfknjllaaDoorCards
import Derived.Test.YtignphkfknjllaaDoorTie
import Derived.ProofKit
import Derived.LaidMore
import Derived.LaidSub
import Derived.OpenShut
import Derived.ChangeMaps5
import Derived.Stop.Joined
import Derived.Lay
import Derived.LaidOnce
import Derived.SevenTiedAt
import Derived.Lib.LaidTab
import Derived.Lib.SmallJoins
import Derived.Carry
namespace Go.Proofs.YtignphkfknjllaaDoor
open Go.ChangeShapes Go.WideShapes Go.ChangeAt Go.WideMaps Go.WideElems Go.RowKit Go.ChangeMaps Go.Joins

theorem own18 : ownKnob Tryd.prog.godebug = none := by kernel_rfl
theorem laidOut18 : laidOutB Tryd.prog = true := by kernel_rfl
theorem gTab : Tryd.prog.globalNamed "math/bits.deBruijn64tab" = some 0 := by kernel_rfl
theorem tTab : (Tryd.prog.globals[0]?).map (·.type) = some 79 := by kernel_rfl
theorem tab_of_laid {W : World} (h : laidMetH Tryd.prog Rows.timerNobodyRow.laid W) : Tb W ∧ 0 < W.heap.size := by
  rw [MakeChecks.laidMetH_plain _ _ _ (by kernel_rfl)] at h
  have h1 := h.filter (fun x => x.1 == "math/bits.deBruijn64tab")
  have t : Lib.TabIs Tryd.prog W "math/bits.deBruijn64tab" .u8 (bru.map fun n => ((n : Nat) : Int)) := Lib.tabIs_of_head (rest := []) gTab tTab Tryd.underlying79 Tryd.underlying5 (by kernel_rfl) (by kernel_rfl) h1
  have hc : Tb W := fun i v hi => by
    have hl := (List.getElem?_eq_some_iff.1 hi).1
    have h2 := t.cell gTab i (by simpa using hl)
    simpa [hi] using h2
  exact ⟨hc, World.block_lt_of_cell? W _ (hc 0 0 rfl)⟩

set_option maxRecDepth 100000 in
theorem lifted (os : Os) (started : os.Started) (H : Type) (enc : TypeId × Value → H) :
    ReturnsInHanded {} Tryd.checked os 6 .any (fun w args => (Rows.timerNobodySpec.pre enc Tryd.prog Tryd.f6 [] false w args ∧ laidMetH Tryd.prog Rows.timerNobodyRow.laid w) ∧ sizedMet enc Tryd.prog Tryd.f6 (OpenSpec.ofChange Rows.timerNobodySpec) false w args)
      (Rows.timerNobodySpec.post enc Tryd.prog Tryd.f6 false true false false) := by
  refine returnsInHanded_of_change_and (C := Tryd.checked) (X := fun w _ => laidMetH Tryd.prog Rows.timerNobodyRow.laid w) (fun _ _ _ hh h => h.of_heap hh) own18 started (by kernel_rfl) Tryd.func6
    (ChangeSpec.witness_shaped (enc := enc) (C := Tryd.checked) (os := os) (X := fun w _ => laidMetH Tryd.prog Rows.timerNobodyRow.laid w) false (World.laidAll Tryd.prog os Rows.timerNobodyRow.laid) #[.bool false, .int .i64 0, .int .i64 0] 8 (World.laidAll_os _ _ _)
      (World.shaped_of_ZipB (by kernel_rfl) (by kernel_rfl)) (by kernel_rfl) (by kernel_rfl) (by kernel_rfl)
      (by rw [MakeChecks.laidMetH_plain _ _ _ (by kernel_rfl)]; exact laidMet_laidAll _ (by kernel_rfl) (by kernel_rfl))) ?_
  intro W base args ds gs before hval0 hW _ hSz hL _
  have hval : ∀ (j : Nat) t v, Tryd.f6.params[j]? = some t → args[j]? = some v → Value.okWide Tryd.prog W .any base t v := hval0
  have hW' := hW
  obtain ⟨p, q, hA0, hV, rfl, hfz, hnd⟩ := hW
  have hA : DataW.TrodAll enc Tryd.prog W 0 (fun _ => true) true Tryd.f6.params.toList args.toList ds p := hA0
  have hSz' : (DataW.weightsEach Tryd.prog (Tryd.f6.params.toList ++ Rows.timerNobodySpec.plain.varTypes Tryd.prog) (ds ++ gs)).all (· ≤ reachBytes) = true := hSz
  rw [Tryd.params6] at hA hval hSz'
  obtain ⟨v0, v1, v2, d0, d1, d2, p0, p1, p2, rfl, rfl, rfl, h0, h1, h2⟩ := trodAll_three hA
  obtain ⟨rfl, rfl⟩ := trodVars_none hV
  obtain ⟨b0, rfl, rfl, rfl⟩ := open_bool Tryd.underlying4 (hval 0 4 v0 rfl rfl) h0
  obtain ⟨i1, rfl, rfl, rfl, hw1⟩ := open_int Tryd.underlying2 (hval 1 2 v1 rfl rfl) h1
  obtain ⟨i2, rfl, rfl, rfl, hw2⟩ := open_int Tryd.underlying2 (hval 2 2 v2 rfl rfl) h2
  obtain ⟨hT, hpos⟩ := tab_of_laid hL
  clear hA0 hval0
  simp only [List.append_nil] at hW'
  refine (law_nobody b0 i1 i2 W hT hpos).mono fun e W' ⟨he, hb⟩ => ?_
  subst he
  have e1 : Rows.timerNobodySpec.fn H ([.lit (.bool b0), .lit (.int .i64 i1), .lit (.int .i64 i2)] ++ []) = { results := [.lit (.bool true)], args := [.lit (.bool b0), .lit (.int .i64 i1), .lit (.int .i64 i2)] } := by simp [Rows.timerNobodySpec]
  refine ⟨_, rfl, _, _, _, [], [] ++ ([] ++ ([])), [], by simpa using hW', ?_, ?_, ?_, hb.frame _, fun h => by cases h⟩
  · rw [e1]; exact trodAll_mk1 (shut_bool Tryd.underlying4 true)
  · rw [e1]; exact trodAll_mk3 (shut_bool Tryd.underlying4 b0) (shut_int Tryd.underlying2 hw1) (shut_int Tryd.underlying2 hw2)
  · rw [e1]; rfl

theorem timerNobody_said : Rows.TimerNobodySaid :=
  OpenClaim.holds_of_wide 6 Tryd.f6 rfl rfl rfl rfl rfl rfl rfl ⟨rfl, rfl, rfl, rfl, rfl⟩ rfl rfl rfl rfl rfl (by kernel_rfl) Tryd.func6 (by kernel_rfl)
    (of_decide_eq_true (by kernel_rfl)) (by unfold Func.isWrapper; first | (rw [if_pos (by decide +kernel)]; kernel_rfl) | (rw [if_neg (by decide +kernel)]; exact ⟨rfl, rfl⟩))
    (fun os started H enc _ => lifted os started H enc)

/-- The tied card. -/
theorem timerNobody_holds : Rows.TimerNobodyCardSaid :=
  Claim7.holds_tied_plain_at .later [] _ _ _ _ timerNobody_said (fun _ h => by cases h) (by kernel_rfl) (fun _ h => by cases h) timerNobody_row_tie rfl ⟨rfl, rfl⟩ (by kernel_rfl) rfl
    (fun f fn hf hfn => by
      obtain rfl : f = 6 := Option.some.inj ((show Tryd.prog.funcNamed "conduit/conduitlaw18.TimerNobody" = some 6 by kernel_rfl).symm.trans hf) |>.symm
      obtain rfl : fn = Tryd.f6 := (Option.some.inj (Tryd.func6.symm.trans hfn)).symm
      exact ⟨by kernel_rfl, fun j t ht => by
        rw [Tryd.params6] at ht
        have hm : t ∈ [4, 2, 2] := by simpa using Array.mem_of_getElem? ht
        have hall : ([4, 2, 2].all fun u => !Tryd.prog.wantsStandIn u) = true := by kernel_rfl
        exact (show Tryd.prog.wantsStandIn t = false by simpa using List.all_eq_true.1 hall t hm)⟩)
    (by kernel_rfl)
#print axioms timerNobody_holds
end Go.Proofs.YtignphkfknjllaaDoor
