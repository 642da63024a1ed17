/- For every two rows of numbers, topic and value, valid or not, the law ShapeRows returns true, and the arguments read afterwards as they read before; the package-level variables that it reads start as the program's text lays them (the card ties them); nothing else is asked. -/
import Derived.Test.YtajagjcfmaggiaaGreatDoorZz
import Derived.Test.YtajagjcfmaggiaaGreatDoorCards
import Derived.Test.YtajagjcfmaggiaaGreatDoorTie
import Derived.ProofKit
import Derived.LaidMore
import Derived.LaidSub
import Derived.OpenShut
import Derived.ChangeMaps5
import Derived.Stop.Joined
import Derived.Lay
import Derived.LaidOnce
import Derived.SevenTiedAt
import Derived.Lib.LaidTab
import Derived.Lib.SmallJoins
import Derived.Carry
namespace Go.Proofs.YtajagjcfmaggiaaGreatDoor
open Go.ChangeShapes Go.WideShapes Go.ChangeAt Go.WideMaps Go.WideElems Go.RowKit Go.ChangeMaps Go.Joins

theorem own17 : ownKnob Tryz.prog.godebug = none := by kernel_rfl
theorem laidOut17 : laidOutB Tryz.prog = true := by kernel_rfl
theorem gFields : Tryz.prog.globalNamed "conduit/datum.fields" = some 4 := by kernel_rfl
theorem tFields : (Tryz.prog.globals[4]?).map (·.type) = some 215 := by kernel_rfl
theorem fields_of_laid {W : World} (h : laidMetH Tryz.prog Rows.shapeRowsRow.laid W) : Lib.TabIs Tryz.prog W "conduit/datum.fields" .u8 [0, 1, 1, 2, 4, 4, 1, 4, 8, 8, 5, 9, 0, 0] := by
  rw [MakeChecks.laidMetH_plain _ _ _ (by kernel_rfl)] at h
  have h1 := h.filter (fun x => x.1 == "conduit/datum.fields")
  exact Lib.tabIs_of_head (rest := []) gFields tFields Tryz.underlying215 Tryz.underlying5 (by kernel_rfl) (by kernel_rfl) h1
theorem ftab_of_laid {W : World} (h : laidMetH Tryz.prog Rows.shapeRowsRow.laid W) : Dt.Tab14 W := by
  have t := fields_of_laid h
  have c1 : W.cell? ⟨4, 1, none⟩ = some (.int .u8 1) := t.cell gFields 1 (by decide)
  exact ⟨World.block_lt_of_cell? W _ c1, fun j hj => t.cell gFields j hj⟩
theorem gPow : Tryz.prog.globalNamed "internal/strconv.uint64pow10" = some 1 := by kernel_rfl
theorem tPow : (Tryz.prog.globals[1]?).map (·.type) = some 178 := by kernel_rfl
theorem pow_of_laid {W : World} (h : laidMetH Tryz.prog Rows.shapeRowsRow.laid W) : Dt.P10 W := by
  rw [MakeChecks.laidMetH_plain _ _ _ (by kernel_rfl)] at h
  have h1 := h.filter (fun x => x.1 == "internal/strconv.uint64pow10")
  exact Lib.tabIs_of_head (rest := []) gPow tPow Tryz.underlying178 Tryz.underlying22 (by kernel_rfl) (by kernel_rfl) h1

set_option maxRecDepth 100000 in
theorem lifted (os : Os) (started : os.Started) (H : Type) (enc : TypeId × Value → H) :
    ReturnsInHanded {} Tryz.checked os 5 .any (fun w args => (Rows.shapeRowsSpec.pre enc Tryz.prog Tryz.f5 [] false w args ∧ laidMetH Tryz.prog Rows.shapeRowsRow.laid w) ∧ sizedMet enc Tryz.prog Tryz.f5 (OpenSpec.ofChange Rows.shapeRowsSpec) false w args)
      (Rows.shapeRowsSpec.post enc Tryz.prog Tryz.f5 false true false false) := by
  refine returnsInHanded_of_change_and (C := Tryz.checked) (X := fun w _ => laidMetH Tryz.prog Rows.shapeRowsRow.laid w) (fun _ _ _ hh h => h.of_heap hh) own17 started (by kernel_rfl) Tryz.func5
    (ChangeSpec.witness_shaped (enc := enc) (C := Tryz.checked) (os := os) (X := fun w _ => laidMetH Tryz.prog Rows.shapeRowsRow.laid w) false (World.laidAll Tryz.prog os Rows.shapeRowsRow.laid) #[.slice none 0 0, .slice none 0 0, .string ⟨#[]⟩, .agg #[.int .i64 0, .int .i64 0, .int .u64 0, .string ⟨#[]⟩, .slice none 0 0]] 8 (World.laidAll_os _ _ _)
      (World.shaped_of_ZipB (by kernel_rfl) (by kernel_rfl)) (by kernel_rfl) (by kernel_rfl) (by kernel_rfl)
      (by rw [MakeChecks.laidMetH_plain _ _ _ (by kernel_rfl)]; exact laidMet_laidAll _ (by kernel_rfl) (by kernel_rfl))) ?_
  intro W base args ds gs before hval0 hW _ hSz hL _
  have hval : ∀ (j : Nat) t v, Tryz.f5.params[j]? = some t → args[j]? = some v → Value.okWide Tryz.prog W .any base t v := hval0
  have hW' := hW
  obtain ⟨p, q, hA0, hV, rfl, hfz, hnd⟩ := hW
  have hA : DataW.TrodAll enc Tryz.prog W 0 (fun _ => true) true Tryz.f5.params.toList args.toList ds p := hA0
  have hSz' : (DataW.weightsEach Tryz.prog (Tryz.f5.params.toList ++ Rows.shapeRowsSpec.plain.varTypes Tryz.prog) (ds ++ gs)).all (· ≤ reachBytes) = true := hSz
  rw [Tryz.params5] at hA hval hSz'
  obtain ⟨v0, v1, v2, v3, d0, d1, d2, d3, p0, p1, p2, p3, rfl, rfl, rfl, h0, h1, h2, h3⟩ := trodAll_four hA
  obtain ⟨rfl, rfl⟩ := trodVars_none hV
  have hk0 := h0
  obtain ⟨f0, hf0⟩ := h0
  have hlt0 : ∀ x ∈ p0, x.block < W.heap.size := fun x hx => by have h9 := hW'; simp only [List.append_nil] at h9; simpa using h9.lt x (by simp [hx])
  obtain ⟨a0, n0, c0, rfl⟩ := okWide_slice Tryz.underlying43 (hval 0 43 v0 rfl rfl)
  obtain ⟨ad0, cp0, l0, ec0, hc0, hm0, hn0, hI0, hx0⟩ := ints_of (f := f0) (v := .slice a0 n0 c0) (by simpa [Value.cells] using hf0)
  simp only [Value.slice.injEq] at ec0
  obtain ⟨rfl, rfl, rfl⟩ := ec0
  have hB0 : l0.length ≤ 140737488355328 := by
    rcases hx0 with ⟨-, e⟩ | ⟨e, sp, hd, he⟩
    · rw [e]; decide
    · have h9 := sized_slice hSz' (j := 0) (t := 43) (e := 3) (elems := e) (spare := sp) rfl (by show some d0 = _; rw [← hd]) Tryz.underlying43
      rw [show Tryz.prog.bytesOf 3 = 8 by kernel_rfl] at h9
      unfold reachBytes at h9
      omega
  have hk1 := h1
  obtain ⟨f1, hf1⟩ := h1
  have hlt1 : ∀ x ∈ p1, x.block < W.heap.size := fun x hx => by have h9 := hW'; simp only [List.append_nil] at h9; simpa using h9.lt x (by simp [hx])
  obtain ⟨a1, n1, c1, rfl⟩ := okWide_slice Tryz.underlying43 (hval 1 43 v1 rfl rfl)
  obtain ⟨ad1, cp1, l1, ec1, hc1, hm1, hn1, hI1, hx1⟩ := ints_of (f := f1) (v := .slice a1 n1 c1) (by simpa [Value.cells] using hf1)
  simp only [Value.slice.injEq] at ec1
  obtain ⟨rfl, rfl, rfl⟩ := ec1
  have hB1 : l1.length ≤ 140737488355328 := by
    rcases hx1 with ⟨-, e⟩ | ⟨e, sp, hd, he⟩
    · rw [e]; decide
    · have h9 := sized_slice hSz' (j := 1) (t := 43) (e := 3) (elems := e) (spare := sp) rfl (by show some d1 = _; rw [← hd]) Tryz.underlying43
      rw [show Tryz.prog.bytesOf 3 = 8 by kernel_rfl] at h9
      unfold reachBytes at h9
      omega
  obtain ⟨s2, rfl, rfl, rfl, z2⟩ := open_string Tryz.underlying9 (hval 2 9 v2 rfl rfl) h2
  have hk3 := h3
  obtain ⟨f3, hf3⟩ := h3
  have hlt3 : ∀ x ∈ p3, x.block < W.heap.size := fun x hx => by have h9 := hW'; simp only [List.append_nil] at h9; simpa using h9.lt x (by simp [hx])
  obtain ⟨cs3, rfl, hsz3⟩ := okWide_struct Tryz.underlying25 (hval 3 25 v3 rfl rfl)
  rw [Dt.tcellsN25] at hsz3
  obtain ⟨c0, c1, c2, c3, c4, rfl⟩ := Dt.array5 hsz3
  obtain ⟨t3, ht3, r63, i63⟩ := Dt.q64_of_trod f3 _ _ hf3
  have rp3 : Dt.Rep W f3 [c0, c1, c2, c3, c4] t3 := by simpa [Value.cells] using ht3
  obtain ⟨k3, n3, u3, b3, ad3, len3, cap3, rfl, rfl, rfl, rfl, rfl⟩ := Dt.rep_shape rp3
  have hT := ftab_of_laid hL
  have hP := pow_of_laid hL
  clear hA0 hval0
  simp only [List.append_nil] at hW'
  refine (law_rows l0 l1 a0 a1 c0 c1 s2 z2 k3 n3 u3 b3 ad3 len3 cap3 t3 r63 i63 W rp3 (hI0.sl hc0 hn0) (hI1.sl hc1 hn1) hB0 hB1 hT hP).mono fun e W' ⟨he, hb⟩ => ?_
  subst he
  have e1 : Rows.shapeRowsSpec.fn H ([d0, d1, .lit (.string s2.data.toList), d3] ++ []) = { results := [.lit (.bool true)], args := [d0, d1, .lit (.string s2.data.toList), d3] } := by simp [Rows.shapeRowsSpec]
  refine ⟨_, rfl, _, _, _, [], p0 ++ (p1 ++ ([] ++ (p3))), [], by simpa using hW', ?_, ?_, ?_, hb.frame _, fun h => by cases h⟩
  · rw [e1]; exact trodAll_mk1 (shut_bool Tryz.underlying4 true)
  · rw [e1]; exact trodAll_mk4 (Below.trod laidOut17 (by kernel_rfl) (of_decide_eq_true (by kernel_rfl)) hk0 hb hlt0) (Below.trod laidOut17 (by kernel_rfl) (of_decide_eq_true (by kernel_rfl)) hk1 hb hlt1) (shut_string Tryz.underlying9 z2) (Below.trod laidOut17 (by kernel_rfl) (of_decide_eq_true (by kernel_rfl)) hk3 hb hlt3)
  · rw [e1]; rfl

theorem shapeRows_said : Rows.ShapeRowsSaid :=
  OpenClaim.holds_of_wide 5 Tryz.f5 rfl rfl rfl rfl rfl rfl rfl ⟨rfl, rfl, rfl, rfl, rfl⟩ rfl rfl rfl rfl rfl (by kernel_rfl) Tryz.func5 (by kernel_rfl)
    (of_decide_eq_true (by kernel_rfl)) (by unfold Func.isWrapper; first | (rw [if_pos (by decide +kernel)]; kernel_rfl) | (rw [if_neg (by decide +kernel)]; exact ⟨rfl, rfl⟩))
    (fun os started H enc _ => lifted os started H enc)

/-- The tied card. -/
theorem shapeRows_holds : Rows.ShapeRowsCardSaid :=
  Claim7.holds_tied_plain_at .later [] _ _ _ _ shapeRows_said (fun _ h => by cases h) (by kernel_rfl) (fun _ h => by cases h) shapeRows_row_tie rfl ⟨rfl, rfl⟩ (by kernel_rfl) rfl
    (fun f fn hf hfn => by
      obtain rfl : f = 5 := Option.some.inj ((show Tryz.prog.funcNamed "conduit/conduitlaw17.ShapeRows" = some 5 by kernel_rfl).symm.trans hf) |>.symm
      obtain rfl : fn = Tryz.f5 := (Option.some.inj (Tryz.func5.symm.trans hfn)).symm
      exact ⟨by kernel_rfl, fun j t ht => by
        rw [Tryz.params5] at ht
        have hm : t ∈ [43, 43, 9, 25] := by simpa using Array.mem_of_getElem? ht
        have hall : ([43, 43, 9, 25].all fun u => !Tryz.prog.wantsStandIn u) = true := by kernel_rfl
        exact (show Tryz.prog.wantsStandIn t = false by simpa using List.all_eq_true.1 hall t hm)⟩)
    (by kernel_rfl)
#print axioms shapeRows_holds
end Go.Proofs.YtajagjcfmaggiaaGreatDoor
