/- For every pattern and value, fit or not, the law ShapePasses returns true, and the arguments read afterwards as they read before; the package-level variable that it reads starts as the program's text lays it (the card ties it); nothing else is asked. -/
import Derived.Test.YtajagjcfmaggiaaGreatDoorZz
import Derived.Test.YtajagjcfmaggiaaGreatDoorCards
import Derived.Test.YtajagjcfmaggiaaGreatDoorTie
import Derived.ProofKit
import Derived.LaidMore
import Derived.LaidSub
import Derived.OpenShut
import Derived.ChangeMaps5
import Derived.Stop.Joined
import Derived.Lay
import Derived.LaidOnce
import Derived.SevenTiedAt
import Derived.Lib.LaidTab
import Derived.Lib.SmallJoins
import Derived.Carry
namespace Go.Proofs.YtajagjcfmaggiaaGreatDoor
open Go.ChangeShapes Go.WideShapes Go.ChangeAt Go.WideMaps Go.WideElems Go.RowKit Go.ChangeMaps Go.Joins

theorem own17 : ownKnob Tryz.prog.godebug = none := by kernel_rfl
theorem laidOut17 : laidOutB Tryz.prog = true := by kernel_rfl
theorem gFields : Tryz.prog.globalNamed "conduit/datum.fields" = some 4 := by kernel_rfl
theorem tFields : (Tryz.prog.globals[4]?).map (·.type) = some 215 := by kernel_rfl
theorem fields_of_laid {W : World} (h : laidMetH Tryz.prog Rows.shapePassesRow.laid W) : Lib.TabIs Tryz.prog W "conduit/datum.fields" .u8 [0, 1, 1, 2, 4, 4, 1, 4, 8, 8, 5, 9, 0, 0] := by
  rw [MakeChecks.laidMetH_plain _ _ _ (by kernel_rfl)] at h
  have h1 := h.filter (fun x => x.1 == "conduit/datum.fields")
  exact Lib.tabIs_of_head (rest := []) gFields tFields Tryz.underlying215 Tryz.underlying5 (by kernel_rfl) (by kernel_rfl) h1
theorem ftab_of_laid {W : World} (h : laidMetH Tryz.prog Rows.shapePassesRow.laid W) : Dt.Tab14 W := by
  have t := fields_of_laid h
  have c1 : W.cell? ⟨4, 1, none⟩ = some (.int .u8 1) := t.cell gFields 1 (by decide)
  exact ⟨World.block_lt_of_cell? W _ c1, fun j hj => t.cell gFields j hj⟩

set_option maxRecDepth 100000 in
theorem lifted (os : Os) (started : os.Started) (H : Type) (enc : TypeId × Value → H) :
    ReturnsInHanded {} Tryz.checked os 4 .any (fun w args => (Rows.shapePassesSpec.pre enc Tryz.prog Tryz.f4 [] false w args ∧ laidMetH Tryz.prog Rows.shapePassesRow.laid w) ∧ sizedMet enc Tryz.prog Tryz.f4 (OpenSpec.ofChange Rows.shapePassesSpec) false w args)
      (Rows.shapePassesSpec.post enc Tryz.prog Tryz.f4 false true false false) := by
  refine returnsInHanded_of_change_and (C := Tryz.checked) (X := fun w _ => laidMetH Tryz.prog Rows.shapePassesRow.laid w) (fun _ _ _ hh h => h.of_heap hh) own17 started (by kernel_rfl) Tryz.func4
    (ChangeSpec.witness_shaped (enc := enc) (C := Tryz.checked) (os := os) (X := fun w _ => laidMetH Tryz.prog Rows.shapePassesRow.laid w) false (World.laidAll Tryz.prog os Rows.shapePassesRow.laid) #[.agg #[.int .i64 0, .int .i64 0, .slice none 0 0], .agg #[.int .i64 0, .int .i64 0, .int .u64 0, .string ⟨#[]⟩, .slice none 0 0]] 8 (World.laidAll_os _ _ _)
      (World.shaped_of_ZipB (by kernel_rfl) (by kernel_rfl)) (by kernel_rfl) (by kernel_rfl) (by kernel_rfl)
      (by rw [MakeChecks.laidMetH_plain _ _ _ (by kernel_rfl)]; exact laidMet_laidAll _ (by kernel_rfl) (by kernel_rfl))) ?_
  intro W base args ds gs before hval0 hW _ _ hL _
  have hval : ∀ (j : Nat) t v, Tryz.f4.params[j]? = some t → args[j]? = some v → Value.okWide Tryz.prog W .any base t v := hval0
  have hW' := hW
  obtain ⟨p, q, hA0, hV, rfl, hfz, hnd⟩ := hW
  have hA : DataW.TrodAll enc Tryz.prog W 0 (fun _ => true) true Tryz.f4.params.toList args.toList ds p := hA0
  rw [Tryz.params4] at hA hval
  obtain ⟨v0, v1, d0, d1, p0, p1, rfl, rfl, rfl, h0, h1⟩ := trodAll_two hA
  obtain ⟨rfl, rfl⟩ := trodVars_none hV
  have hk0 := h0
  obtain ⟨f0, hf0⟩ := h0
  have hlt0 : ∀ x ∈ p0, x.block < W.heap.size := fun x hx => by have h9 := hW'; simp only [List.append_nil] at h9; simpa using h9.lt x (by simp [hx])
  obtain ⟨cs0, rfl, hsz0⟩ := okWide_struct Tryz.underlying40 (hval 0 40 v0 rfl rfl)
  rw [wcells] at hsz0
  obtain ⟨wa, wb, wc, rfl⟩ := array3 hsz0
  obtain ⟨t0, ht0⟩ := repW_of_trod f0 _ _ hf0
  have rp0 : RepW W f0 [wa, wb, wc] t0 := by simpa [Value.cells] using ht0
  have hk1 := h1
  obtain ⟨f1, hf1⟩ := h1
  have hlt1 : ∀ x ∈ p1, x.block < W.heap.size := fun x hx => by have h9 := hW'; simp only [List.append_nil] at h9; simpa using h9.lt x (by simp [hx])
  obtain ⟨cs1, rfl, hsz1⟩ := okWide_struct Tryz.underlying25 (hval 1 25 v1 rfl rfl)
  rw [Dt.tcellsN25] at hsz1
  obtain ⟨c0, c1, c2, c3, c4, rfl⟩ := Dt.array5 hsz1
  obtain ⟨t1, ht1, r61, i61⟩ := Dt.q64_of_trod f1 _ _ hf1
  have rp1 : Dt.Rep W f1 [c0, c1, c2, c3, c4] t1 := by simpa [Value.cells] using ht1
  obtain ⟨k1, n1, u1, b1, ad1, len1, cap1, rfl, rfl, rfl, rfl, rfl⟩ := Dt.rep_shape rp1
  have hT := ftab_of_laid hL
  clear hA0 hval0
  simp only [List.append_nil] at hW'
  refine (law_passes f0 t0 wa wb wc f1 t1 _ _ _ _ _ W rp0 rp1 hT).mono fun e W' ⟨he, hb⟩ => ?_
  subst he
  have e1 : Rows.shapePassesSpec.fn H ([d0, d1] ++ []) = { results := [.lit (.bool true)], args := [d0, d1] } := by simp [Rows.shapePassesSpec]
  refine ⟨_, rfl, _, _, _, [], p0 ++ (p1), [], by simpa using hW', ?_, ?_, ?_, hb.frame _, fun h => by cases h⟩
  · rw [e1]; exact trodAll_mk1 (shut_bool Tryz.underlying4 true)
  · rw [e1]; exact trodAll_mk2 (Below.trod laidOut17 (by kernel_rfl) (of_decide_eq_true (by kernel_rfl)) hk0 hb hlt0) (Below.trod laidOut17 (by kernel_rfl) (of_decide_eq_true (by kernel_rfl)) hk1 hb hlt1)
  · rw [e1]; rfl

theorem shapePasses_said : Rows.ShapePassesSaid :=
  OpenClaim.holds_of_wide 4 Tryz.f4 rfl rfl rfl rfl rfl rfl rfl ⟨rfl, rfl, rfl, rfl, rfl⟩ rfl rfl rfl rfl rfl (by kernel_rfl) Tryz.func4 (by kernel_rfl)
    (of_decide_eq_true (by kernel_rfl)) (by unfold Func.isWrapper; first | (rw [if_pos (by decide +kernel)]; kernel_rfl) | (rw [if_neg (by decide +kernel)]; exact ⟨rfl, rfl⟩))
    (fun os started H enc _ => lifted os started H enc)

/-- The tied card. -/
theorem shapePasses_holds : Rows.ShapePassesCardSaid :=
  Claim7.holds_tied_plain_at .later [] _ _ _ _ shapePasses_said (fun _ h => by cases h) (by kernel_rfl) (fun _ h => by cases h) shapePasses_row_tie rfl ⟨rfl, rfl⟩ (by kernel_rfl) rfl
    (fun f fn hf hfn => by
      obtain rfl : f = 4 := Option.some.inj ((show Tryz.prog.funcNamed "conduit/conduitlaw17.ShapePasses" = some 4 by kernel_rfl).symm.trans hf) |>.symm
      obtain rfl : fn = Tryz.f4 := (Option.some.inj (Tryz.func4.symm.trans hfn)).symm
      exact ⟨by kernel_rfl, fun j t ht => by
        rw [Tryz.params4] at ht
        have hm : t ∈ [40, 25] := by simpa using Array.mem_of_getElem? ht
        have hall : ([40, 25].all fun u => !Tryz.prog.wantsStandIn u) = true := by kernel_rfl
        exact (show Tryz.prog.wantsStandIn t = false by simpa using List.all_eq_true.1 hall t hm)⟩)
    (by kernel_rfl)
#print axioms shapePasses_holds
end Go.Proofs.YtajagjcfmaggiaaGreatDoor
