/- For every state and every value, fit, valid or not, the law CoreFits returns true, and the arguments read afterwards as they read before; the package-level variables that it reads start as the program's text lays them (the card ties them); nothing else is asked. -/
import Derived.Test.YtgijdiplhcoojaaGreatDoorJea
import Derived.Test.YtgijdiplhcoojaaGreatDoorHRd
import Derived.Test.YtgijdiplhcoojaaGreatDoorCards
import Derived.Test.YtgijdiplhcoojaaGreatDoorTie
import Derived.ProofKit
import Derived.LaidMore
import Derived.LaidSub
import Derived.OpenShut
import Derived.ChangeMaps5
import Derived.Stop.Joined
import Derived.Lay
import Derived.LaidOnce
import Derived.SevenTiedAt
namespace Go.Proofs.YtgijdiplhcoojaaGreatDoor
open Go.ChangeShapes Go.WideShapes Go.ChangeAt Go.WideMaps Go.WideElems Go.RowKit Go.ChangeMaps

theorem gFields : Tryz.prog.globalNamed "conduit/datum.fields" = some 2 := by kernel_rfl
theorem tFields : (Tryz.prog.globals[2]?).map (·.type) = some 149 := by kernel_rfl
theorem fwc_of_laid {W : World} (h : laidMetH Tryz.prog Rows.coreFitsRow.laid W) : Wc W := by
  rw [MakeChecks.laidMetH_plain _ _ _ (by kernel_rfl)] at h
  exact words_of_reads (Lib.laidMet.reads h (.tail _ (.head _)))
theorem fields_of_laid {W : World} (h : laidMetH Tryz.prog Rows.coreFitsRow.laid W) : Lib.TabIs Tryz.prog W "conduit/datum.fields" .u8 [0, 1, 1, 2, 4, 4, 1, 4, 8, 8, 5, 9, 0, 0] := by
  rw [MakeChecks.laidMetH_plain _ _ _ (by kernel_rfl)] at h
  have h1 := h.filter (fun x => x.1 == "conduit/datum.fields")
  exact Lib.tabIs_of_head (rest := []) gFields tFields Tryz.underlying149 Tryz.underlying5 (by kernel_rfl) (by kernel_rfl) h1
theorem ftab_of_laid {W : World} (h : laidMetH Tryz.prog Rows.coreFitsRow.laid W) : Dt.Tab14 W := by
  have t := fields_of_laid h
  have c1 : W.cell? ⟨2, 1, none⟩ = some (.int .u8 1) := t.cell gFields 1 (by decide)
  exact ⟨World.block_lt_of_cell? W _ c1, fun j hj => t.cell gFields j hj⟩

set_option maxRecDepth 100000 in
theorem fits_lifted (os : Os) (started : os.Started) (H : Type) (enc : TypeId × Value → H) :
    ReturnsInHanded {} Tryz.checked os 3 .any (fun w args => (Rows.coreFitsSpec.pre enc Tryz.prog Tryz.f3 [] false w args ∧ laidMetH Tryz.prog Rows.coreFitsRow.laid w) ∧ sizedMet enc Tryz.prog Tryz.f3 (OpenSpec.ofChange Rows.coreFitsSpec) false w args)
      (Rows.coreFitsSpec.post enc Tryz.prog Tryz.f3 false true false false) := by
  refine returnsInHanded_of_change_and (C := Tryz.checked) (X := fun w _ => laidMetH Tryz.prog Rows.coreFitsRow.laid w) (fun _ _ _ hh h => h.of_heap hh) own10 started (by kernel_rfl) Tryz.func3
    (ChangeSpec.witness_shaped (enc := enc) (C := Tryz.checked) (os := os) (X := fun w _ => laidMetH Tryz.prog Rows.coreFitsRow.laid w) false (World.laidAll Tryz.prog os Rows.coreFitsRow.laid) #[.agg #[.int .i64 0, .int .i64 0, .int .i64 0, .int .i64 0, .int .u64 0, .string ⟨#[]⟩, .slice none 0 0, .slice none 0 0, .bool false, .int .i64 0], .agg #[.int .i64 0, .int .i64 0, .int .u64 0, .string ⟨#[]⟩, .slice none 0 0]] 8 (World.laidAll_os _ _ _)
      (World.shaped_of_ZipB (by kernel_rfl) (by kernel_rfl)) (by kernel_rfl) (by kernel_rfl) (by kernel_rfl)
      (by rw [MakeChecks.laidMetH_plain _ _ _ (by kernel_rfl)]; exact laidMet_laidAll _ (by kernel_rfl) (by kernel_rfl))) ?_
  intro W base args ds gs before hval0 hW _ hSz hL _
  have hval : ∀ (j : Nat) t v, Tryz.f3.params[j]? = some t → args[j]? = some v → Value.okWide Tryz.prog W .any base t v := hval0
  have hW' := hW
  obtain ⟨p, q, hA0, hV, rfl, hfz, hnd⟩ := hW
  have hA : DataW.TrodAll enc Tryz.prog W 0 (fun _ => true) true Tryz.f3.params.toList args.toList ds p := hA0
  have hSz' : (DataW.weightsEach Tryz.prog (Tryz.f3.params.toList ++ Rows.coreFitsSpec.plain.varTypes Tryz.prog) (ds ++ gs)).all (· ≤ reachBytes) = true := hSz
  rw [Tryz.params3] at hA hval hSz'
  obtain ⟨v0, v1, d0, d1, p0, p1, rfl, rfl, rfl, h0, h1⟩ := trodAll_two hA
  obtain ⟨rfl, rfl⟩ := trodVars_none hV
  have hs0 : (d0.weights Tryz.prog 27).all (· ≤ reachBytes) = true := by
    simp only [List.cons_append, List.nil_append, DataW.weightsEach, List.all_append, Bool.and_eq_true] at hSz'
    exact hSz'.1
  obtain ⟨cs, rfl, hc10⟩ := okWide_struct Tryz.underlying27 (hval 0 27 v0 rfl rfl)
  rw [Dt.scells] at hc10
  obtain ⟨c0, c1, c2, c3, c4, c5, c6, c7, c8, c9, rfl⟩ := Dt.array10 hc10
  obtain ⟨ds1, rfl, hc5⟩ := okWide_struct Tryz.underlying25 (hval 1 25 v1 rfl rfl)
  rw [Dt.tcellsN25] at hc5
  obtain ⟨b0, b1, b2, b3, b4, rfl⟩ := Dt.array5 hc5
  have h0k := h0
  have h1k := h1
  obtain ⟨fuel, hf⟩ := h0
  obtain ⟨n, cn, ac, un, k, i, u, s, a, len, cap, la, lc, cl, l0, ts, rfl, rfl, rfl, rfl, rfl, rfl, rfl, rfl, rfl, rfl, hS⟩ := Dt.state_of_trod fuel c0 c1 c2 c3 c4 c5 c6 c7 c8 c9 (d0, p0) (by simpa [Value.cells] using hf) hs0
  obtain ⟨m, hg⟩ := h1
  obtain ⟨t, ht⟩ := Dt.rep_of_trod m _ _ hg
  have ht' : Dt.Rep W m [b0, b1, b2, b3, b4] t := by simpa [Value.cells] using ht
  obtain ⟨dk, di, du, dst, da, dn, dc, rfl, rfl, rfl, rfl, rfl⟩ := Dt.rep_cells ht'
  have hT := ftab_of_laid hL
  have hN := fwc_of_laid hL
  clear hA0 hval0
  simp only [List.append_nil] at hW'
  have hlt : ∀ x ∈ p0 ++ p1, x.block < W.heap.size := fun x hx => by simpa using hW'.lt x (by simpa using hx)
  have hl0 : ∀ x ∈ p0, x.block < W.heap.size := fun x hx => hlt x (by simp [hx])
  have hl1 : ∀ x ∈ p1, x.block < W.heap.size := fun x hx => hlt x (by simp [hx])
  refine (Dt.law_fits n m cn ac un k i u s a len cap la lc cl l0 ts dk di du dst da dn dc t W hS ht' hT hN).mono fun e W' ⟨he, hb⟩ => ?_
  subst he
  have e1 : Rows.coreFitsSpec.fn H ([d0, d1] ++ []) = { results := [.lit (.bool true)], args := [d0, d1] } := by simp [Rows.coreFitsSpec]
  refine ⟨_, rfl, _, _, _, [], p0 ++ p1, [], by simpa using hW', ?_, ?_, ?_, hb.frame _, fun h => by cases h⟩
  · rw [e1]; exact trodAll_mk1 (shut_bool Tryz.underlying4 true)
  · rw [e1]; exact trodAll_mk2 (Below.trod laidOut (by kernel_rfl) (of_decide_eq_true (by kernel_rfl)) h0k hb hl0) (Below.trod laidOut (by kernel_rfl) (of_decide_eq_true (by kernel_rfl)) h1k hb hl1)
  · rw [e1]; rfl

theorem coreFits_said : Rows.CoreFitsSaid :=
  OpenClaim.holds_of_wide 3 Tryz.f3 rfl rfl rfl rfl rfl rfl rfl ⟨rfl, rfl, rfl, rfl, rfl⟩ rfl rfl rfl rfl rfl (by kernel_rfl) Tryz.func3 (by kernel_rfl)
    (of_decide_eq_true (by kernel_rfl)) (by unfold Func.isWrapper; first | (rw [if_pos (by decide +kernel)]; kernel_rfl) | (rw [if_neg (by decide +kernel)]; exact ⟨rfl, rfl⟩))
    (fun os started H enc _ => fits_lifted os started H enc)

/-- The tied card. -/
theorem coreFits_holds : Rows.CoreFitsCardSaid :=
  Claim7.holds_tied_plain_at .later [] _ _ _ _ coreFits_said (fun _ h => by cases h) (by kernel_rfl) (fun _ h => by cases h) coreFits_row_tie rfl ⟨rfl, rfl⟩ (by kernel_rfl) rfl
    (fun f fn hf hfn => by
      obtain rfl : f = 3 := Option.some.inj ((show Tryz.prog.funcNamed "conduit/conduitlaw10.CoreFits" = some 3 by kernel_rfl).symm.trans hf) |>.symm
      obtain rfl : fn = Tryz.f3 := (Option.some.inj (Tryz.func3.symm.trans hfn)).symm
      exact ⟨by kernel_rfl, fun j t ht => by
        rw [Tryz.params3] at ht
        have hm : t ∈ [27, 25] := by simpa using Array.mem_of_getElem? ht
        have hall : ([27, 25].all fun u => !Tryz.prog.wantsStandIn u) = true := by kernel_rfl
        exact (show Tryz.prog.wantsStandIn t = false by simpa using List.all_eq_true.1 hall t hm)⟩)
    (by kernel_rfl)
#print axioms coreFits_holds
end Go.Proofs.YtgijdiplhcoojaaGreatDoor
