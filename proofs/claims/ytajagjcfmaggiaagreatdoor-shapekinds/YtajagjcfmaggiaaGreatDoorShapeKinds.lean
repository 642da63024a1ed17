/- Package shape: the kind of what a map gives, as the document says; the conditions are the card's. -/
import Derived.Test.YtajagjcfmaggiaaGreatDoorCards
import Derived.Test.YtajagjcfmaggiaaGreatDoorTie
import Derived.ProofKit
import Derived.LaidMore
import Derived.LaidSub
import Derived.OpenShut
import Derived.ChangeMaps5
import Derived.Stop.Joined
import Derived.Lay
import Derived.LaidOnce
import Derived.SevenTiedAt
import Derived.Lib.LaidTab
import Derived.Lib.SmallJoins
import Derived.Carry
import Derived.Test.YtajagjcfmaggiaaGreatDoorKCeg
import Derived.Test.YtajagjcfmaggiaaGreatDoorKCeh
namespace Go.Proofs.YtajagjcfmaggiaaGreatDoor
open Go.ChangeShapes Go.WideShapes Go.ChangeAt Go.WideMaps Go.WideElems Go.RowKit Go.ChangeMaps Go.Joins

theorem own17 : ownKnob Tryz.prog.godebug = none := by kernel_rfl
theorem laidOut17 : laidOutB Tryz.prog = true := by kernel_rfl
theorem gFields : Tryz.prog.globalNamed "conduit/datum.fields" = some 4 := by kernel_rfl
theorem tFields : (Tryz.prog.globals[4]?).map (·.type) = some 215 := by kernel_rfl
theorem fields_of_laid {W : World} (h : laidMetH Tryz.prog Rows.shapeKindsRow.laid W) : Lib.TabIs Tryz.prog W "conduit/datum.fields" .u8 [0, 1, 1, 2, 4, 4, 1, 4, 8, 8, 5, 9, 0, 0] := by
  rw [MakeChecks.laidMetH_plain _ _ _ (by kernel_rfl)] at h
  have h1 := h.filter (fun x => x.1 == "conduit/datum.fields")
  exact Lib.tabIs_of_head (rest := []) gFields tFields Tryz.underlying215 Tryz.underlying5 (by kernel_rfl) (by kernel_rfl) h1
theorem ftab_of_laid {W : World} (h : laidMetH Tryz.prog Rows.shapeKindsRow.laid W) : Dt.Tab14 W := by
  have t := fields_of_laid h
  have c1 : W.cell? ⟨4, 1, none⟩ = some (.int .u8 1) := t.cell gFields 1 (by decide)
  exact ⟨World.block_lt_of_cell? W _ c1, fun j hj => t.cell gFields j hj⟩

set_option maxRecDepth 100000 in
theorem lifted (os : Os) (started : os.Started) (H : Type) (enc : TypeId × Value → H) :
    ReturnsInHanded {} Tryz.checked os 6 .any (fun w args => (Rows.shapeKindsSpec.pre enc Tryz.prog Tryz.f6 [] false w args ∧ laidMetH Tryz.prog Rows.shapeKindsRow.laid w) ∧ sizedMet enc Tryz.prog Tryz.f6 (OpenSpec.ofChange Rows.shapeKindsSpec) false w args)
      (Rows.shapeKindsSpec.post enc Tryz.prog Tryz.f6 false true false false) := by
  refine wrap_shaped (C := Tryz.checked) (X := fun w _ => laidMetH Tryz.prog Rows.shapeKindsRow.laid w) (fun _ _ _ hh h => h.of_heap hh) own17 started (by kernel_rfl) Tryz.func6
    (ChangeSpec.witness_shaped (enc := enc) (C := Tryz.checked) (os := os) (X := fun w _ => laidMetH Tryz.prog Rows.shapeKindsRow.laid w) false (World.laidAll Tryz.prog os Rows.shapeKindsRow.laid) #[.int .i64 0, .int .u32 0, .agg #[.int .i64 0, .int .i64 0, .int .u64 0, .string ⟨#[]⟩, .slice none 0 0]] 8 (World.laidAll_os _ _ _)
      (World.shaped_of_ZipB (by kernel_rfl) (by kernel_rfl)) (by kernel_rfl) (by kernel_rfl) (by kernel_rfl)
      (by rw [MakeChecks.laidMetH_plain _ _ _ (by kernel_rfl)]; exact laidMet_laidAll _ (by kernel_rfl) (by kernel_rfl))) ?_
  intro W base args ds gs before hSh hval0 hW _ hSz hL _
  have hval : ∀ (j : Nat) t v, Tryz.f6.params[j]? = some t → args[j]? = some v → Value.okWide Tryz.prog W .any base t v := hval0
  have hW' := hW
  obtain ⟨p, q, hA0, hV, rfl, hfz, hnd⟩ := hW
  have hA : DataW.TrodAll enc Tryz.prog W 0 (fun _ => true) true Tryz.f6.params.toList args.toList ds p := hA0
  have hSz' : (DataW.weightsEach Tryz.prog (Tryz.f6.params.toList ++ Rows.shapeKindsSpec.plain.varTypes Tryz.prog) (ds ++ gs)).all (· ≤ reachBytes) = true := hSz
  rw [Tryz.params6] at hA hval hSz'
  obtain ⟨v0, v1, v2, d0, d1, d2, p0, p1, p2, rfl, rfl, rfl, h0, h1, h2⟩ := trodAll_three hA
  obtain ⟨rfl, rfl⟩ := trodVars_none hV
  obtain ⟨i0, rfl, rfl, rfl, hw0⟩ := open_int Tryz.underlying3 (hval 0 3 v0 rfl rfl) h0
  obtain ⟨i1, rfl, rfl, rfl, hw1⟩ := open_int Tryz.underlying46 (hval 1 46 v1 rfl rfl) h1
  have hk2 := h2
  obtain ⟨f2, hf2⟩ := h2
  have hlt2 : ∀ x ∈ p2, x.block < W.heap.size := fun x hx => by have h9 := hW'; simp only [List.append_nil] at h9; simpa using h9.lt x (by simp [hx])
  obtain ⟨cs2, rfl, hsz2⟩ := okWide_struct Tryz.underlying25 (hval 2 25 v2 rfl rfl)
  rw [Dt.tcellsN25] at hsz2
  obtain ⟨c0, c1, c2, c3, c4, rfl⟩ := Dt.array5 hsz2
  obtain ⟨t2, ht2, r62, i62⟩ := Dt.q64_of_trod f2 _ _ hf2
  have rp2 : Dt.Rep W f2 [c0, c1, c2, c3, c4] t2 := by simpa [Value.cells] using ht2
  obtain ⟨k2, n2, u2, b2, ad2, len2, cap2, rfl, rfl, rfl, rfl, rfl⟩ := Dt.rep_shape rp2
  have hT := ftab_of_laid hL
  have hTb : Tb20 W := pow_shaped hSh
  clear hA0 hval0
  simp only [List.append_nil] at hW'
  refine (law_kinds i0 i1 k2 n2 u2 b2 ad2 len2 cap2 t2 r62 i62 W rp2 hT hTb).mono fun e W' ⟨he, hb⟩ => ?_
  subst he
  have e1 : Rows.shapeKindsSpec.fn H ([.lit (.int .i64 i0), .lit (.int .u32 i1), d2] ++ []) = { results := [.lit (.bool true)], args := [.lit (.int .i64 i0), .lit (.int .u32 i1), d2] } := by simp [Rows.shapeKindsSpec]
  refine ⟨_, rfl, _, _, _, [], [] ++ ([] ++ (p2)), [], by simpa using hW', ?_, ?_, ?_, hb.frame _, fun h => by cases h⟩
  · rw [e1]; exact trodAll_mk1 (shut_bool Tryz.underlying4 true)
  · rw [e1]; exact trodAll_mk3 (shut_int Tryz.underlying3 hw0) (shut_int Tryz.underlying46 hw1) (Below.trod laidOut17 (by kernel_rfl) (of_decide_eq_true (by kernel_rfl)) hk2 hb hlt2)
  · rw [e1]; rfl

theorem shapeKinds_said : Rows.ShapeKindsSaid :=
  OpenClaim.holds_of_wide 6 Tryz.f6 rfl rfl rfl rfl rfl rfl rfl ⟨rfl, rfl, rfl, rfl, rfl⟩ rfl rfl rfl rfl rfl (by kernel_rfl) Tryz.func6 (by kernel_rfl)
    (of_decide_eq_true (by kernel_rfl)) (by unfold Func.isWrapper; first | (rw [if_pos (by decide +kernel)]; kernel_rfl) | (rw [if_neg (by decide +kernel)]; exact ⟨rfl, rfl⟩))
    (fun os started H enc _ => lifted os started H enc)

/-- The tied card. -/
theorem shapeKinds_holds : Rows.ShapeKindsCardSaid :=
  Claim7.holds_tied_plain_at .later [] _ _ _ _ shapeKinds_said (fun _ h => by cases h) (by kernel_rfl) (fun _ h => by cases h) shapeKinds_row_tie rfl ⟨rfl, rfl⟩ (by kernel_rfl) rfl
    (fun f fn hf hfn => by
      obtain rfl : f = 6 := Option.some.inj ((show Tryz.prog.funcNamed "conduit/conduitlaw17.ShapeKinds" = some 6 by kernel_rfl).symm.trans hf) |>.symm
      obtain rfl : fn = Tryz.f6 := (Option.some.inj (Tryz.func6.symm.trans hfn)).symm
      exact ⟨by kernel_rfl, fun j t ht => by
        rw [Tryz.params6] at ht
        have hm : t ∈ [3, 46, 25] := by simpa using Array.mem_of_getElem? ht
        have hall : ([3, 46, 25].all fun u => !Tryz.prog.wantsStandIn u) = true := by kernel_rfl
        exact (show Tryz.prog.wantsStandIn t = false by simpa using List.all_eq_true.1 hall t hm)⟩)
    (by kernel_rfl)
#print axioms shapeKinds_holds
end Go.Proofs.YtajagjcfmaggiaaGreatDoor
