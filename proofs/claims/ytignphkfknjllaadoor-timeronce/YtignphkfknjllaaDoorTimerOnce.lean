/- For every number and script the law TimerOnce returns true, and each argument reads afterwards as it read before; the package-level variable that it reads starts as the program's text lays it (the card ties it); nothing else is asked. -/
import Derived.Test.YtignphkfknjllaaDoorLawOn
import Derived.Test.YtignphkfknjllaaDoorXRd
import Derived.Test.YtignphkfknjllaaDoorCards
import Derived.Test.YtignphkfknjllaaDoorTie
import Derived.ProofKit
import Derived.LaidMore
import Derived.LaidSub
import Derived.OpenShut
import Derived.ChangeMaps5
import Derived.Stop.Joined
import Derived.Lay
import Derived.LaidOnce
import Derived.SevenTiedAt
import Derived.Lib.LaidTab
import Derived.Lib.SmallJoins
import Derived.Carry
namespace Go.Proofs.YtignphkfknjllaaDoor
open Go.ChangeShapes Go.WideShapes Go.ChangeAt Go.WideMaps Go.WideElems Go.RowKit Go.ChangeMaps Go.Joins

theorem own18 : ownKnob Tryd.prog.godebug = none := by kernel_rfl
theorem laidOut18 : laidOutB Tryd.prog = true := by kernel_rfl
theorem gTab : Tryd.prog.globalNamed "math/bits.deBruijn64tab" = some 0 := by kernel_rfl
theorem tTab : (Tryd.prog.globals[0]?).map (·.type) = some 79 := by kernel_rfl
theorem tab_of_laid {W : World} (h : laidMetH Tryd.prog Rows.timerOnceRow.laid W) : Tb W ∧ 0 < W.heap.size := by
  rw [MakeChecks.laidMetH_plain _ _ _ (by kernel_rfl)] at h
  have h1 := h.filter (fun x => x.1 == "math/bits.deBruijn64tab")
  have t : Lib.TabIs Tryd.prog W "math/bits.deBruijn64tab" .u8 (bru.map fun n => ((n : Nat) : Int)) := Lib.tabIs_of_head (rest := []) gTab tTab Tryd.underlying79 Tryd.underlying5 (by kernel_rfl) (by kernel_rfl) h1
  have hc : Tb W := fun i v hi => by
    have hl := (List.getElem?_eq_some_iff.1 hi).1
    have h2 := t.cell gTab i (by simpa using hl)
    simpa [hi] using h2
  exact ⟨hc, World.block_lt_of_cell? W _ (hc 0 0 rfl)⟩

set_option maxRecDepth 100000 in
theorem lifted (os : Os) (started : os.Started) (H : Type) (enc : TypeId × Value → H) :
    ReturnsInHanded {} Tryd.checked os 5 .any (fun w args => (Rows.timerOnceSpec.pre enc Tryd.prog Tryd.f5 [] false w args ∧ laidMetH Tryd.prog Rows.timerOnceRow.laid w) ∧ sizedMet enc Tryd.prog Tryd.f5 (OpenSpec.ofChange Rows.timerOnceSpec) false w args)
      (Rows.timerOnceSpec.post enc Tryd.prog Tryd.f5 false true false false) := by
  refine returnsInHanded_of_change_and (C := Tryd.checked) (X := fun w _ => laidMetH Tryd.prog Rows.timerOnceRow.laid w) (fun _ _ _ hh h => h.of_heap hh) own18 started (by kernel_rfl) Tryd.func5
    (ChangeSpec.witness_shaped (enc := enc) (C := Tryd.checked) (os := os) (X := fun w _ => laidMetH Tryd.prog Rows.timerOnceRow.laid w) false (World.laidAll Tryd.prog os Rows.timerOnceRow.laid) #[.int .i64 0, .slice none 0 0] 8 (World.laidAll_os _ _ _)
      (World.shaped_of_ZipB (by kernel_rfl) (by kernel_rfl)) (by kernel_rfl) (by kernel_rfl) (by kernel_rfl)
      (by rw [MakeChecks.laidMetH_plain _ _ _ (by kernel_rfl)]; exact laidMet_laidAll _ (by kernel_rfl) (by kernel_rfl))) ?_
  intro W base args ds gs before hval0 hW _ hSz hL _
  have hval : ∀ (j : Nat) t v, Tryd.f5.params[j]? = some t → args[j]? = some v → Value.okWide Tryd.prog W .any base t v := hval0
  have hW' := hW
  obtain ⟨p, q, hA0, hV, rfl, hfz, hnd⟩ := hW
  have hA : DataW.TrodAll enc Tryd.prog W 0 (fun _ => true) true Tryd.f5.params.toList args.toList ds p := hA0
  have hSz' : (DataW.weightsEach Tryd.prog (Tryd.f5.params.toList ++ Rows.timerOnceSpec.plain.varTypes Tryd.prog) (ds ++ gs)).all (· ≤ reachBytes) = true := hSz
  rw [Tryd.params5] at hA hval hSz'
  obtain ⟨v0, v1, d0, d1, p0, p1, rfl, rfl, rfl, h0, h1⟩ := trodAll_two hA
  obtain ⟨rfl, rfl⟩ := trodVars_none hV
  obtain ⟨i0, rfl, rfl, rfl, hw0⟩ := open_int Tryd.underlying2 (hval 0 2 v0 rfl rfl) h0
  have hk1 := h1
  obtain ⟨f1, hf1⟩ := h1
  have hlt1 : ∀ x ∈ p1, x.block < W.heap.size := fun x hx => by have h9 := hW'; simp only [List.append_nil] at h9; simpa using h9.lt x (by simp [hx])
  obtain ⟨a1, n1, c1, rfl⟩ := okWide_slice Tryd.underlying22 (hval 1 22 v1 rfl rfl)
  obtain ⟨ad1, cp1, l1, ec1, hc1, hI1, hx1⟩ := acts_of (f := f1) (v := .slice a1 n1 c1) (by simpa [Value.cells] using hf1)
  simp only [Value.slice.injEq] at ec1
  obtain ⟨rfl, rfl, rfl⟩ := ec1
  have hB1 : l1.length ≤ 5864062014805 := by
    rcases hx1 with ⟨-, e⟩ | ⟨e, sp, hd, he⟩
    · rw [e]; decide
    · have h9 := sized_slice hSz' (j := 1) (t := 22) (e := 29) (elems := e) (spare := sp) rfl (by show some d1 = _; rw [← hd]) Tryd.underlying22
      rw [show Tryd.prog.bytesOf 29 = 24 by kernel_rfl] at h9
      unfold reachBytes at h9
      omega
  obtain ⟨hT, hpos⟩ := tab_of_laid hL
  clear hA0 hval0
  simp only [List.append_nil] at hW'
  refine (law_once i0 l1 a1 c1 W hI1 hB1 hT hpos).mono fun e W' ⟨he, hb⟩ => ?_
  subst he
  have e1 : Rows.timerOnceSpec.fn H ([.lit (.int .i64 i0), d1] ++ []) = { results := [.lit (.bool true)], args := [.lit (.int .i64 i0), d1] } := by simp [Rows.timerOnceSpec]
  refine ⟨_, rfl, _, _, _, [], [] ++ (p1), [], by simpa using hW', ?_, ?_, ?_, hb.frame _, fun h => by cases h⟩
  · rw [e1]; exact trodAll_mk1 (shut_bool Tryd.underlying4 true)
  · rw [e1]; exact trodAll_mk2 (shut_int Tryd.underlying2 hw0) (Below.trod laidOut18 (by kernel_rfl) (of_decide_eq_true (by kernel_rfl)) hk1 hb hlt1)
  · rw [e1]; rfl

theorem timerOnce_said : Rows.TimerOnceSaid :=
  OpenClaim.holds_of_wide 5 Tryd.f5 rfl rfl rfl rfl rfl rfl rfl ⟨rfl, rfl, rfl, rfl, rfl⟩ rfl rfl rfl rfl rfl (by kernel_rfl) Tryd.func5 (by kernel_rfl)
    (of_decide_eq_true (by kernel_rfl)) (by unfold Func.isWrapper; first | (rw [if_pos (by decide +kernel)]; kernel_rfl) | (rw [if_neg (by decide +kernel)]; exact ⟨rfl, rfl⟩))
    (fun os started H enc _ => lifted os started H enc)

/-- The tied card. -/
theorem timerOnce_holds : Rows.TimerOnceCardSaid :=
  Claim7.holds_tied_plain_at .later [] _ _ _ _ timerOnce_said (fun _ h => by cases h) (by kernel_rfl) (fun _ h => by cases h) timerOnce_row_tie rfl ⟨rfl, rfl⟩ (by kernel_rfl) rfl
    (fun f fn hf hfn => by
      obtain rfl : f = 5 := Option.some.inj ((show Tryd.prog.funcNamed "conduit/conduitlaw18.TimerOnce" = some 5 by kernel_rfl).symm.trans hf) |>.symm
      obtain rfl : fn = Tryd.f5 := (Option.some.inj (Tryd.func5.symm.trans hfn)).symm
      exact ⟨by kernel_rfl, fun j t ht => by
        rw [Tryd.params5] at ht
        have hm : t ∈ [2, 22] := by simpa using Array.mem_of_getElem? ht
        have hall : ([2, 22].all fun u => !Tryd.prog.wantsStandIn u) = true := by kernel_rfl
        exact (show Tryd.prog.wantsStandIn t = false by simpa using List.all_eq_true.1 hall t hm)⟩)
    (by kernel_rfl)
#print axioms timerOnce_holds
end Go.Proofs.YtignphkfknjllaaDoor
