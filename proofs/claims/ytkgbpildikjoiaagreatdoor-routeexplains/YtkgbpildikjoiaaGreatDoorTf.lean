/- Names and filters as the program tells them: isTopicText, Name, isFilterLevel, Filter; what is asked of the world: the two tables of unicode/utf8 as their text lays them. -/
import Derived.Test.YtkgbpildikjoiaaGreatDoorShelf2
import Derived.Test.YtkgbpildikjoiaaGreatDoorTi
import Derived.Test.YtkgbpildikjoiaaGreatDoorTc
namespace Go.Proofs.YtkgbpildikjoiaaGreatDoor
open Go.RowKit Tp Go.Shelf

attribute [local go_sem] Oper.semAt_some

/-- The tables that utf8.ValidString reads. -/
def Tabs (w : World) : Prop := Lib.Utf8Tabs (Tryz.lays196_ren.g 3) (Tryz.lays196_ren.g 4) w
theorem Tabs.below {w w' : World} (h : Tabs w) (hB : Below w.heap.size w w') : Tabs w' := Utf8Tabs_below h hB
theorem Tabs.from {n : Nat} {w w' : World} (h : Tabs w) (hn : w.heap.size ≤ n) (hB : Below n w w') : Tabs w' := Utf8Tabs_below h (hB.mono hn)

theorem idx0 (l : Bs) : decide (Lib.indexByte l 0 < 0) = decide ((0 : UInt8) ∉ l) := by
  rcases idx_cases 0 l with ⟨h1, h2⟩ | ⟨a, b, h1, h2, h3⟩
  · rw [h2]; simp [h1]
  · rw [h3]
    have : (0 : UInt8) ∈ l := by rw [h1]; simp
    simp [this]

set_option maxHeartbeats 1000000 in
theorem isTopicText_any (s : ByteArray) (w : World) (hs : s.size ≤ 9223372036854775807) (hT : Tabs w) :
    Calls Tryz.prog 69 #[.string s] w fun e w' => e = .returned (.bool (okText (tl s))) ∧ Below w.heap.size w w' := by
  have cV := Tryz.utf8_ValidString s w (by omega) hT
  rw [← tl_data] at cV
  unfold okText
  have hl := tl_size s
  rw [hl]
  by_cases h0 : tl s = []
  · have h0' : s.toList.isEmpty = true := by rw [show s.toList = [] from h0]; rfl
    have e : (decide (tl s ≠ []) && decide (s.size ≤ 65535) && Lib.validD (tl s) && decide ((0 : UInt8) ∉ tl s)) = false := by simp [h0]
    rw [e]
    clear cV e
    go_enter Tryz.func69, Tryz.ntmps69
    go_wp2
    go_ret
    exact ⟨rfl, Below.refl _ _⟩
  · have h0' : s.toList.isEmpty = false := by simpa using h0
    by_cases h1 : s.size ≤ 65535
    · have h1' : (s.size : Int) ≤ 65535 := by omega
      cases hv : Lib.validD (tl s) with
      | false =>
        rw [hv] at cV
        have e : (decide (tl s ≠ []) && decide (s.size ≤ 65535) && false && decide ((0 : UInt8) ∉ tl s)) = false := by simp
        rw [e]
        go_enter Tryz.func69, Tryz.ntmps69
        go_wp2_with (go_at_call 44; refine cV.mono ?_; rintro e w' ⟨rfl, hb⟩)
        go_ret
        exact ⟨rfl, hb⟩
      | true =>
        rw [hv] at cV
        have e : (decide (tl s ≠ []) && decide (s.size ≤ 65535) && true && decide ((0 : UInt8) ∉ tl s)) = decide (Lib.indexByte s.data.toList 0 < 0) := by rw [← tl_data, idx0]; simp [h0, h1]
        rw [e]
        have h00 : (0 : Int).toNat.toUInt8 = 0 := rfl
        go_enter Tryz.func69, Tryz.ntmps69
        go_wp2_with (first | (go_at_call 44; refine cV.mono ?_; rintro e w' ⟨rfl, hb⟩) | (go_at_call 81; refine (Tryz.strings_IndexByte _ _ _).mono ?_; rintro e w' ⟨rfl, rfl⟩; rw [h00]))
        go_ret
        exact ⟨rfl, hb⟩
    · have h1' : ¬ (s.size : Int) ≤ 65535 := by omega
      have e : (decide (tl s ≠ []) && decide (s.size ≤ 65535) && Lib.validD (tl s) && decide ((0 : UInt8) ∉ tl s)) = false := by simp [h1]
      rw [e]
      clear cV e
      go_enter Tryz.func69, Tryz.ntmps69
      go_wp2
      go_ret
      exact ⟨rfl, Below.refl _ _⟩

theorem okText_size {s : ByteArray} (h : okText (tl s) = true) : s.size ≤ 65535 := by
  rw [← tl_size]
  simp only [okText, Bool.and_eq_true, decide_eq_true_eq] at h
  exact h.1.1.2

set_option maxHeartbeats 1000000 in
theorem name_any (s : ByteArray) (w : World) (hs : s.size ≤ 9223372036854775807) (hT : Tabs w) :
    Calls Tryz.prog 54 #[.string s] w fun e w' => e = .returned (.bool (isName (tl s))) ∧ Below w.heap.size w w' := by
  have c1 := isTopicText_any s w hs hT
  unfold isName
  cases h : okText (tl s) with
  | false =>
    rw [h] at c1
    rw [Bool.false_and]
    go_enter Tryz.func54, Tryz.ntmps54
    go_wp2_with (go_at_call 69; refine c1.mono ?_; rintro e w' ⟨rfl, hb⟩)
    go_ret
    exact ⟨rfl, hb⟩
  | true =>
    rw [h] at c1
    have hz := okText_size h
    rw [Bool.true_and]
    go_enter Tryz.func54, Tryz.ntmps54
    go_wp2_with (first | (go_at_call 69; refine c1.mono ?_; rintro e w' ⟨rfl, hb⟩) | (go_at_call 70; refine (containsAny_any s _ (by omega)).mono ?_; rintro e w2 ⟨rfl, hb2⟩))
    go_ret
    exact ⟨rfl, hb.trans (hb2.mono hb.size)⟩

set_option maxHeartbeats 1000000 in
theorem isFilterLevel_any (x : ByteArray) (w : World) (hs : x.size ≤ 1048577) :
    Calls Tryz.prog 100 #[.string x] w fun e w' => e = .returned (.bool (decide (tl x = pl) || decide (tl x = ha) || !wc (tl x))) ∧ Below w.heap.size w w' := by
  by_cases h1 : tl x = pl
  · have h1' : (x.toList == [43]) = true := by simpa using h1
    have e : (decide (tl x = pl) || decide (tl x = ha) || !wc (tl x)) = true := by simp [h1]
    rw [e]
    go_enter Tryz.func100, Tryz.ntmps100
    go_wp2
    go_ret
    exact ⟨rfl, Below.refl _ _⟩
  · have h1' : (x.toList == [43]) = false := by simpa using h1
    by_cases h2 : tl x = ha
    · have h2' : (x.toList == [35]) = true := by simpa using h2
      have e : (decide (tl x = pl) || decide (tl x = ha) || !wc (tl x)) = true := by simp [h2]
      rw [e]
      clear h2
      go_enter Tryz.func100, Tryz.ntmps100
      go_wp2
      go_ret
      exact ⟨rfl, Below.refl _ _⟩
    · have h2' : (x.toList == [35]) = false := by simpa using h2
      have e : (decide (tl x = pl) || decide (tl x = ha) || !wc (tl x)) = !wc (tl x) := by simp [h1, h2]
      rw [e]
      go_enter Tryz.func100, Tryz.ntmps100
      go_wp2_with (go_at_call 70; refine (containsAny_any x _ hs).mono ?_; rintro e w2 ⟨rfl, hb2⟩)
      go_ret
      exact ⟨rfl, hb2⟩

theorem keeps_below {W W' : World} (h : Below W.heap.size W W') : KeepsOthers W W' := ⟨h.size, fun k _ hk _ => (h.block k (Array.getElem?_eq_some_iff.1 hk).1).trans hk⟩
theorem Boxed.below {W W' : World} {B : Nat} {t : TypeId} {v : Value} (h : Boxed W B t v) (hB : Below W.heap.size W W') : Boxed W' B t v := (hB.block B h.lt).trans h

/-- Was the last level the hash? -/
def eo (pre : List ByteArray) : Bool := decide ((pre.getLast?).map tl = some ha)
theorem eo_snoc (pre : List ByteArray) (x : ByteArray) : eo (pre ++ [x]) = decide (tl x = ha) := by simp [eo]
set_option maxRecDepth 100000 in
set_option maxHeartbeats 4000000 in
theorem filter_yes (s : ByteArray) (w : World) (hT : Tabs w) (hok : okText (tl s) = true) :
    Calls Tryz.prog 83 #[.string s] w fun e w' => e = .returned (.bool (fl (lvs (tl s)))) ∧ Below w.heap.size w w' := by
  have hz := okText_size hok
  have bR := Boxed.new w 4 (.bool false)
  have bR0 := below1 w (.cells #[.bool false] 4)
  refine (callsIn_wide (n := 4)).1 ?_
  refine callsIn_of_wp_marks Tryz.func83 rfl trivial ?_ rfl
  simp only [Tryz.ntmps83, List.size_toArray, List.length_cons, List.length_nil, Nat.reduceAdd, Nat.reduceSub, Array.replicate_succ, Array.replicate_zero, List.push_toArray, List.append_toArray, List.nil_append, List.cons_append]
  gi_wp2_with (first
    | (refine ⟨trivial, ?_⟩; gi_at_call 69; refine (callsIn_wide.2 (isTopicText_any s _ (by omega) (hT.below bR0))).mono ?_; rintro e w1 ⟨rfl, hb1⟩; rw [hok])
    | (refine ⟨trivial, ?_⟩; gi_at_call 99; refine (each_in Fence.wide _ rfl _ _).mono ?_; rintro e w' ⟨rfl, rfl⟩))
  have hle : w.heap.size < w1.heap.size := by have := hb1.size; simp at this; omega
  have bR1 := Boxed.below bR hb1
  have hB1 : Below w.heap.size w w1 := bR0.trans (hb1.mono (by simp))
  clear bR bR0 hb1
  have bE := Boxed.new w1 4 (.bool false)
  have bN := Boxed.new (w1.alloc (.cells #[.bool false] 4)) 9 (.string s)
  rw [World.size_alloc] at bN
  have hB0 : Below w.heap.size w ((w1.alloc (.cells #[.bool false] 4)).alloc (.cells #[.string s] 9)) := (hB1.alloc (by omega) _).alloc (by simp; omega) _
  refine wpIn_rangeFunc_ownG rfl (by omega) (gf := 110) (lb := #[.pointer (some ⟨w1.heap.size + 1, 0, none⟩)]) rfl trivial (enters_of Tryz.func110 (by kernel_rfl) rfl)
    (each_stops2 (4 - 1) (by omega) (w1.heap.size + 1) w.heap.size s (by omega) _ (by simp) bN.cell) belowK_t (belowK_b (by simp; omega)) (Below.refl _ _) (fun _ => rfl)
    (fun pre W => Boxed W w1.heap.size 4 (.bool (eo (pre.map (·.1)))) ∧ Boxed W w.heap.size 4 (.bool false) ∧ (∀ rest, flE false (pre.map (fun x => tl x.1) ++ rest) = flE (eo (pre.map (·.1))) rest) ∧ Below w.heap.size w W)
    (fun c pre W => (c = .ret ∧ ∀ rest, flE false (pre.map (fun x => tl x.1) ++ rest) = false) ∧ Boxed W w.heap.size 4 (.bool false) ∧ Below w.heap.size w W)
    (OwnFrom.and (Own.from (boxed_own _ _ (fun pre : List Lv => .bool (eo (pre.map (·.1))))) _) (OwnFrom.and (Own.from (boxed_own _ _ (fun _ => .bool false)) _) (OwnFrom.and (ownFrom_pure _ _) (ownFrom_below (Nat.le_refl _) (by simp; omega)))))
    (fun c => OwnFrom.and (ownFrom_pure _ _) (OwnFrom.and (Own.from (boxed_own _ _ (fun _ => .bool false)) _) (ownFrom_below (Nat.le_refl _) (by simp; omega))))
    ⟨bE.alloc _, (bR1.alloc _).alloc _, fun _ => rfl, hB0⟩
    (fun x => { tmps := #[.string s, undef, .pointer (some ⟨w.heap.size, 0, none⟩), .pointer (some ⟨w1.heap.size, 0, none⟩), .string x.1, .string s, .bool true, .bool false, .string s, .func (.func 110) #[] #[.pointer (some ⟨w1.heap.size + 1, 0, none⟩)], .string x.1, undef, undef, undef, undef, undef, undef, undef, undef], defers := [] }) ?assign ?body ?done ?stop
  case assign =>
    intro l x W K hK
    gi_wp2
    exact hK
  case body =>
    rintro l pre ⟨x, hxs⟩ W ⟨hE, hR, hfl, hB⟩ hlt
    have hsn : ∀ rest, flE false ((pre ++ [(⟨x, hxs⟩ : Lv)]).map (fun x : Lv => tl x.1) ++ rest) = flE (eo (pre.map (·.1))) (tl x :: rest) := fun rest => by rw [← hfl, List.map_append, List.append_assoc]; rfl
    have hse : eo ((pre ++ [(⟨x, hxs⟩ : Lv)]).map (·.1)) = decide (tl x = ha) := by rw [List.map_append]; exact eo_snoc _ _
    generalize eo (pre.map (·.1)) = E at hE hfl hsn
    have cE := hE.cell
    have cR := hR.cell
    have fE := hE.frozen
    have fR := hR.frozen
    cases E with
    | true =>
      gi_wp2
      refine ⟨trivial, ?_⟩
      gi_wp2
      exact ⟨(KeepsOthers.setCell _ _ _).from _, ⟨rfl, fun rest => by rw [hsn]; rfl⟩, hR.set _, hB.setCell (p := ⟨w.heap.size, 0, none⟩) (Nat.le_refl _) _⟩
    | false =>
      cases hO : (decide (tl x = pl) || decide (tl x = ha) || !wc (tl x)) with
      | false =>
        gi_wp2_with (refine ⟨trivial, ?_⟩; gi_at_call 100; refine (CallsIn.inRound l (callsIn_wide.2 (isFilterLevel_any x _ hxs))).mono ?_; rintro e w3 ⟨rfl, hb3⟩; rw [hO]; have hE3 := Boxed.below hE hb3; have hR3 := Boxed.below hR hb3; have cE3 := hE3.cell; have cR3 := hR3.cell; have fE3 := hE3.frozen; have fR3 := hR3.frozen)
        exact ⟨((keeps_below hb3).trans (KeepsOthers.setCell _ _ _)).from _, ⟨rfl, fun rest => by rw [hsn, flE, hO]; rfl⟩, hR3.set _, (hB.trans (hb3.mono hB.size)).setCell (p := ⟨w.heap.size, 0, none⟩) (Nat.le_refl _) _⟩
      | true =>
        gi_wp2_with (refine ⟨trivial, ?_⟩; gi_at_call 100; refine (CallsIn.inRound l (callsIn_wide.2 (isFilterLevel_any x _ hxs))).mono ?_; rintro e w3 ⟨rfl, hb3⟩; rw [hO]; have hE3 := Boxed.below hE hb3; have hR3 := Boxed.below hR hb3; have cE3 := hE3.cell; have cR3 := hR3.cell; have fE3 := hE3.frozen; have fR3 := hR3.frozen)
        have hBW := (hb3.mono hB.size).setCell (p := ⟨w1.heap.size, 0, none⟩) (Nat.le_of_lt hle) (.bool (x.toList == [35]))
        exact ⟨((keeps_below hb3).trans (KeepsOthers.setCell _ _ _)).from _, hBW, by rw [hse, ← Bool.beq_eq_decide_eq]; exact hE3.set _, hR3.other (by omega) _, fun rest => by rw [hse, hsn, flE, hO]; rfl, hB.trans hBW⟩
  case done =>
    rintro D ys W hD hys ⟨hE, hR, hfl, hB⟩ hK
    have cR := hR.cell
    have fR := hR.frozen
    have hres : fl (lvs (tl s)) = true := by
      have h1 := hfl []
      rw [List.append_nil] at h1
      have h2 : ys.map (fun x => tl x.1) = lvs (tl s) := by
        have := congrArg (List.map tl) hys
        rw [List.map_map, List.map_map] at this
        rw [show (fun x : Lv => tl x.1) = tl ∘ (fun x : Lv => x.1) from rfl, this]
        conv => rhs; rw [← List.map_id (lvs (tl s))]
        exact List.map_congr_left fun x _ => tl_bs x
      rw [h2, flE_fl] at h1
      rw [h1]; cases eo _ <;> rfl
    gi_wp2
    have hK' := (KeepsOthers.setCell W ⟨w.heap.size, 0, none⟩ (.bool true)).same D _ hK rfl
    refine ⟨by simp, .inl ⟨_, _, rfl, run_takeDeferred hK', ?_⟩⟩
    have hc5 := cell_kept (hR.set (.bool true)).cell (grownBy_putObj' _ D (.deferred none)) (fun r e => by cases e; exact ⟨_, hK', rfl⟩)
    refine ⟨.bool true, ?_, by rw [hres], (hB.setCell (p := ⟨w.heap.size, 0, none⟩) (Nat.le_refl _) _).trans (belowK_b (w := w) (Nat.le_refl _) _ D _ _ (by simp at hD; omega) hK' rfl rfl)⟩
    simp [results, Tryz.f83, go_sem, hc5]
  case stop =>
    rintro D c pre W hD hpre ⟨⟨rfl, hfl⟩, hR, hB⟩ hK
    have hres : fl (lvs (tl s)) = false := by
      obtain ⟨t, ht⟩ := hpre
      have h2 : lvs (tl s) = pre.map (fun x => tl x.1) ++ t.map tl := by
        have := congrArg (List.map tl) ht
        rw [List.map_append, List.map_map, List.map_map] at this
        rw [show (fun x : Lv => tl x.1) = tl ∘ (fun x : Lv => x.1) from rfl, this]
        conv => lhs; rw [← List.map_id (lvs (tl s))]
        exact (List.map_congr_left fun x _ => tl_bs x).symm
      rw [← flE_fl, h2]
      exact hfl _
    gi_wp2
    refine ⟨by simp, .inl ⟨_, _, rfl, run_takeDeferred hK, ?_⟩⟩
    have hc5 := cell_kept hR.cell (grownBy_putObj' _ D (.deferred none)) (fun r e => by cases e; exact ⟨_, hK, rfl⟩)
    refine ⟨.bool false, ?_, by rw [hres], hB.trans (belowK_b (w := w) (Nat.le_refl _) W D _ _ (by simp at hD; omega) hK rfl rfl)⟩
    simp [results, Tryz.f83, go_sem, hc5]

set_option maxHeartbeats 1000000 in
theorem filter_no (s : ByteArray) (w : World) (hs : s.size ≤ 9223372036854775807) (hT : Tabs w) (hok : okText (tl s) = false) :
    Calls Tryz.prog 83 #[.string s] w fun e w' => e = .returned (.bool false) ∧ Below w.heap.size w w' := by
  have bR := Boxed.new w 4 (.bool false)
  have bR0 := below1 w (.cells #[.bool false] 4)
  go_enter Tryz.func83, Tryz.ntmps83
  go_wp2_with (go_at_call 69; refine (isTopicText_any s _ hs (hT.below bR0)).mono ?_; rintro e w1 ⟨rfl, hb1⟩; rw [hok]; have bR1 := Boxed.below bR hb1; have cR := bR1.cell; have fR := bR1.frozen)
  have hc5 := (bR1.set (.bool false)).cell
  refine bodyPost_ret (v := .bool false) ?_ rfl ⟨rfl, (bR0.trans (hb1.mono (by simp))).setCell (p := ⟨w.heap.size, 0, none⟩) (Nat.le_refl _) _⟩
  simp [results, Tryz.f83, go_sem, hc5]

theorem filter_any (s : ByteArray) (w : World) (hs : s.size ≤ 9223372036854775807) (hT : Tabs w) :
    Calls Tryz.prog 83 #[.string s] w fun e w' => e = .returned (.bool (isFilter (tl s))) ∧ Below w.heap.size w w' := by
  unfold isFilter
  cases h : okText (tl s) with
  | false => exact filter_no s w hs hT h
  | true => exact filter_yes s w hT h
end Go.Proofs.YtkgbpildikjoiaaGreatDoor
