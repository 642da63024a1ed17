/- For every two values, valid or not, the law DatumCalls returns true, and the arguments read afterwards as they read before; the package-level variables that it reads start as the program's text lays them (the card ties them); nothing else is asked. -/
import Derived.Test.YtlmebokbbhjbmaaGreatDoorDRd6
import Derived.Test.YtlmebokbbhjbmaaGreatDoorLawCal
import Derived.Test.YtlmebokbbhjbmaaGreatDoorCards
import Derived.Test.YtlmebokbbhjbmaaGreatDoorTie
import Derived.ProofKit
import Derived.LaidMore
import Derived.LaidSub
import Derived.OpenShut
import Derived.Stop.Joined
import Derived.Lib.LaidTab
namespace Go.Proofs.YtlmebokbbhjbmaaGreatDoor
open Dt Go.ChangeShapes Go.WideShapes Go.ChangeAt Go.WideMaps Go.WideElems Go.RowKit

theorem own : ownKnob Tryz.prog.godebug = none := by kernel_rfl
theorem laidOut : laidOutB Tryz.prog = true := by kernel_rfl
theorem gFields : Tryz.prog.globalNamed "conduit/datum.fields" = some 1 := by kernel_rfl
theorem tFields : (Tryz.prog.globals[1]?).map (·.type) = some 152 := by kernel_rfl
theorem gPow : Tryz.prog.globalNamed "internal/strconv.uint64pow10" = some 2 := by kernel_rfl
theorem tPow : (Tryz.prog.globals[2]?).map (·.type) = some 156 := by kernel_rfl

theorem fields_of_laid {W : World} (h : laidMetH Tryz.prog Rows.datumCallsRow.laid W) : Lib.TabIs Tryz.prog W "conduit/datum.fields" .u8 [0, 1, 1, 2, 4, 4, 1, 4, 8, 8, 5, 9, 0, 0] := by
  rw [MakeChecks.laidMetH_plain _ _ _ (by kernel_rfl)] at h
  have h1 := h.filter (fun x => x.1 == "conduit/datum.fields")
  exact Lib.tabIs_of_head (rest := []) gFields tFields Tryz.underlying152 Tryz.underlying5 (by kernel_rfl) (by kernel_rfl) h1
theorem pow_of_laid {W : World} (h : laidMetH Tryz.prog Rows.datumCallsRow.laid W) : Aw.Pow0 W := by
  rw [MakeChecks.laidMetH_plain _ _ _ (by kernel_rfl)] at h
  have h1 := h.filter (fun x => x.1 == "internal/strconv.uint64pow10")
  exact Lib.tabIs_of_head (rest := []) gPow tPow Tryz.underlying156 Tryz.underlying22 (by kernel_rfl) (by kernel_rfl) h1
theorem tab_of_laid {W : World} (h : laidMetH Tryz.prog Rows.datumCallsRow.laid W) : Aw.Tab W := by
  have t := fields_of_laid h
  have c1 : W.cell? ⟨1, 1, none⟩ = some (.int .u8 1) := t.cell gFields 1 (by decide)
  exact ⟨World.block_lt_of_cell? W _ c1, c1, t.cell gFields 4 (by decide), t.cell gFields 8 (by decide)⟩

theorem door_met (os : Os) (args : Array Value) : laidMetH Tryz.prog Rows.datumCallsRow.laid ((World.doorLaid Tryz.prog 77 os).forCall (fun _ _ => 0) ⟨#[], args, []⟩).memory := by
  rw [MakeChecks.laidMetH_plain _ _ _ (by kernel_rfl)]
  exact laidMet_of_run' 8 (by kernel_rfl) (by kernel_rfl)

theorem wfi {i : Int} (h : (Lit.int .i64 i).wf = true) : I64 i := by
  have hw' : (-9223372036854775808 : Int) ≤ i ∧ i ≤ 9223372036854775807 := by simpa [Lit.wf, IntKind.min, IntKind.max, IntKind.bits, IntKind.signed] using h
  exact hw'
set_option maxRecDepth 100000 in
theorem num_of_trod {H : Type} {enc : TypeId × Value → H} {w : World} {base : Nat} {sp : Nat → Bool} {held : Bool} (fuel : Nat) (c0 c2 c3 c4 : Value) (i : Int) (x : DataW H × List MemPlace)
    (h : DataW.trod enc Tryz.prog w base sp held fuel 25 [c0, .int .i64 i, c2, c3, c4] = some x) : I64 i := by
  cases fuel with
  | zero => simp [DataW.trod] at h
  | succ fuel =>
    obtain ⟨xs, n, hn, -, hlen, hxl, hf⟩ := DataW.trod_struct Tryz.underlying25 h
    obtain ⟨y1, hy1⟩ : ∃ y, xs[1]? = some y := ⟨_, List.getElem?_eq_getElem (by rw [hxl]; exact (by decide : 1 < 5))⟩
    have h2 : DataW.trod enc Tryz.prog w base sp held n 2 (([c0, .int .i64 i, c2, c3, c4].drop 1).take (Tryz.prog.cellsOf 2)) = some y1 := (hf 1 _ rfl).trans hy1
    rw [Dt.tcellsN2] at h2
    obtain ⟨v, e2, -, hw⟩ := DataW.trod_int Tryz.underlying2 h2
    simp at e2
    subst e2
    exact wfi hw

set_option maxRecDepth 100000 in
theorem lifted (os : Os) (started : os.Started) (H : Type) (enc : TypeId × Value → H) :
    ReturnsInHanded {} Tryz.checked os 3 .any (fun w args => (Rows.datumCallsSpec.pre enc Tryz.prog Tryz.f3 [] false w args ∧ laidMetH Tryz.prog Rows.datumCallsRow.laid w) ∧ sizedMet enc Tryz.prog Tryz.f3 (OpenSpec.ofChange Rows.datumCallsSpec) false w args)
      (Rows.datumCallsSpec.post enc Tryz.prog Tryz.f3 false true false false) := by
  refine returnsInHanded_of_change_and (C := Tryz.checked) (X := fun w _ => laidMetH Tryz.prog Rows.datumCallsRow.laid w) (fun _ _ _ hh h => h.of_heap hh) own started (by kernel_rfl) Tryz.func3
    (ChangeSpec.witness_shaped (enc := enc) (C := Tryz.checked) (os := os) (X := fun w _ => laidMetH Tryz.prog Rows.datumCallsRow.laid w) false (World.doorLaid Tryz.prog 77 os) #[.agg #[.int .i64 0, .int .i64 0, .int .u64 0, .string ⟨#[]⟩, .slice none 0 0], .agg #[.int .i64 0, .int .i64 0, .int .u64 0, .string ⟨#[]⟩, .slice none 0 0]] 8 rfl (World.shaped_of_RefB (by kernel_rfl) (by kernel_rfl)) (by kernel_rfl) (by kernel_rfl) (by kernel_rfl) (door_met os _)) ?_
  intro W base args ds gs before hval0 hW _ _ hL _
  have hval : ∀ (j : Nat) t v, Tryz.f3.params[j]? = some t → args[j]? = some v → Value.okWide Tryz.prog W .any base t v := hval0
  have hW' := hW
  obtain ⟨p, q, hA0, hV, rfl, hfz, hnd⟩ := hW
  have hA : DataW.TrodAll enc Tryz.prog W 0 (fun _ => true) true Tryz.f3.params.toList args.toList ds p := hA0
  rw [Tryz.params3] at hA hval
  obtain ⟨v0, v1, d0, d1, p0, p1, rfl, rfl, rfl, h0, h1⟩ := trodAll_two hA
  obtain ⟨rfl, rfl⟩ := trodVars_none hV
  have one : ∀ (j : Nat) (v : Value) (d : DataW H) (p : List MemPlace), (#[25, 25] : Array TypeId)[j]? = some 25 → (#[v0, v1] : Array Value)[j]? = some v → DataW.Trod enc Tryz.prog W 0 (fun _ => true) true 25 v d p →
      ∃ (fuel : Nat) (t : Tr fuel) (k i u : Int) (s : ByteArray) (ad : Option Addr) (len cap : Nat), v = .agg #[.int .i64 k, .int .i64 i, .int .u64 u, .string s, .slice ad len cap] ∧ Rep W fuel [.int .i64 k, .int .i64 i, .int .u64 u, .string s, .slice ad len cap] t ∧ r64 fuel t ∧ I64 i := by
    intro j v d p hj hv h
    obtain ⟨cs, rfl, hsz5⟩ := okWide_struct Tryz.underlying25 (hval j 25 v hj hv)
    rw [Dt.tcellsN25] at hsz5
    obtain ⟨c0, c1, c2, c3, c4, rfl⟩ := array5 hsz5
    obtain ⟨fuel, hf⟩ := h
    obtain ⟨t, ht, h6⟩ := rep64_of_trod fuel _ _ hf
    have ht' : Rep W fuel [c0, c1, c2, c3, c4] t := by simpa [Value.cells] using ht
    have hf' : DataW.trod enc Tryz.prog W 0 (fun _ => true) true fuel 25 [c0, c1, c2, c3, c4] = some (d, p) := by simpa [Value.cells] using hf
    obtain ⟨k, i, u, s, ad, len, cap, rfl, rfl, rfl, rfl, rfl⟩ := rep_shape ht'
    exact ⟨fuel, t, k, i, u, s, ad, len, cap, rfl, ht', h6, num_of_trod fuel _ _ _ _ _ _ hf'⟩
  obtain ⟨na, ta, ka, ia, ua, sa, pa, la, ca, rfl, ra, ea, fa⟩ := one 0 v0 d0 p0 rfl rfl h0
  obtain ⟨nb, tb, kb, ib, ub, sb, pb, lb, cb, rfl, rb, eb, fb⟩ := one 1 v1 d1 p1 rfl rfl h1
  have hT := tab_of_laid hL
  have hP := pow_of_laid hL
  clear hA0 hval0 one
  simp only [List.append_nil] at hW'
  have hlt : ∀ x ∈ p0 ++ p1, x.block < W.heap.size := fun x hx => by simpa using hW'.lt x (by simpa using hx)
  have hl0 : ∀ x ∈ p0, x.block < W.heap.size := fun x hx => hlt x (by simp [hx])
  have hl1 : ∀ x ∈ p1, x.block < W.heap.size := fun x hx => hlt x (by simp [hx])
  refine (law_calls na nb ta tb ka ia ua kb ib ub sa sb pa pb la ca lb cb W ra rb ea fa hT hP).mono fun e W' ⟨he, hb⟩ => ?_
  subst he
  have e1 : Rows.datumCallsSpec.fn H ([d0, d1] ++ []) = { results := [.lit (.bool true)], args := [d0, d1] } := by simp [Rows.datumCallsSpec]
  refine ⟨_, rfl, _, _, _, [], p0 ++ p1, [], by simpa using hW', ?_, ?_, ?_, hb.frame _, fun h => by cases h⟩
  · rw [e1]; exact trodAll_mk1 (shut_bool Tryz.underlying4 true)
  · rw [e1]; exact trodAll_mk2 (Below.trod laidOut (by kernel_rfl) (of_decide_eq_true (by kernel_rfl)) h0 hb hl0) (Below.trod laidOut (by kernel_rfl) (of_decide_eq_true (by kernel_rfl)) h1 hb hl1)
  · rw [e1]; rfl

theorem datumCalls_said : Rows.DatumCallsSaid :=
  OpenClaim.holds_of_wide 3 Tryz.f3 rfl rfl rfl rfl rfl rfl rfl ⟨rfl, rfl, rfl, rfl, rfl⟩ rfl rfl rfl rfl rfl (by kernel_rfl) Tryz.func3 (by kernel_rfl)
    (of_decide_eq_true (by kernel_rfl)) (by unfold Func.isWrapper; first | (rw [if_pos (by decide +kernel)]; kernel_rfl) | (rw [if_neg (by decide +kernel)]; exact ⟨rfl, rfl⟩))
    (fun os started H enc _ => lifted os started H enc)

/-- The tied card. -/
theorem datumCalls_holds : Rows.DatumCallsCardSaid :=
  Claim7.holds_tied_plain_at .later [] _ _ _ _ datumCalls_said (fun _ h => by cases h) (by kernel_rfl) (fun _ h => by cases h) datumCalls_row_tie rfl ⟨rfl, rfl⟩ (by kernel_rfl) rfl
    (fun f fn hf hfn => by
      obtain rfl : f = 3 := Option.some.inj ((show Tryz.prog.funcNamed "conduit/conduitlaw01.DatumCalls" = some 3 by kernel_rfl).symm.trans hf) |>.symm
      obtain rfl : fn = Tryz.f3 := (Option.some.inj (Tryz.func3.symm.trans hfn)).symm
      exact ⟨by kernel_rfl, fun j t ht => by
        rw [Tryz.params3] at ht
        have hm : t ∈ [25, 25] := by simpa using Array.mem_of_getElem? ht
        have hall : ([25, 25].all fun u => !Tryz.prog.wantsStandIn u) = true := by kernel_rfl
        exact (show Tryz.prog.wantsStandIn t = false by simpa using List.all_eq_true.1 hall t hm)⟩)
    (by kernel_rfl)
#print axioms datumCalls_holds
end Go.Proofs.YtlmebokbbhjbmaaGreatDoor
