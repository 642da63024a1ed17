/- Whether a number is known, and it made known; the conditions: the row in memory, of a size that can be. -/
import Derived.Test.YtdnmbalmejhbcaaDd
namespace Go.Proofs.Ytdnmbalmejhbcaa
open Go.RowKit Go.Shelf

/-- What is known behind it. -/
def sn (size id : Int) (l : List Int) : List Int := if id ∈ l then l else stayL size l ++ [id]
theorem sn_yes {size id : Int} {l : List Int} (h : id ∈ l) : sn size id l = l := if_pos h
theorem sn_no {size id : Int} {l : List Int} (h : ¬ id ∈ l) : sn size id l = stayL size l ++ [id] := if_neg h

theorem Bk.new2 (w : World) (o : Obj) (cs : Array Value) (T : TypeId) : Bk ((w.alloc o).alloc (.cells cs T)) (w.heap.size + 1) cs T := by have := Bk.new (w.alloc o) cs T; rwa [World.size_alloc] at this
theorem Ow.set {w : World} {base A : Nat} {ad : Option Addr} {cap : Nat} {l : List Int} (h : Ow w base ad cap l) (hA : A < base) (v : Value) : Ow (w.setCell ⟨A, 0, none⟩ v) base ad cap l := h.keep fun g hg _ => Below.heap_setCell _ _ _ _ (by simp; omega)
/-- A number alone, in new memory. -/
theorem Sl.one (w : World) (T : TypeId) (x : Int) : Sl (w.alloc (.cells #[.int .i64 x] T)) (some ⟨w.heap.size, 0, none⟩) 1 [x] := by
  refine ⟨by simp, (fun e => nomatch e), .inr ⟨_, _, rfl, by simp, fun j hj => ?_⟩⟩
  simp at hj
  subst hj
  exact (Bk.new w _ _).c 0

set_option maxRecDepth 100000 in
set_option maxHeartbeats 1000000 in
theorem seen_any (ad : Option Addr) (l : List Int) (cap : Nat) (size id : Int) (w : World) (hl : l.length ≤ 10000) (hI : Sl w ad cap l) :
    Calls Try.prog 8 #[.agg #[.slice ad l.length cap], .int .i64 size, .int .i64 id] w fun e w' => ∃ ad' cap', e = .returned (.tuple #[.agg #[.slice ad' (sn size id l).length cap'], .bool (decide (id ∈ l))]) ∧ Ow w' w.heap.size ad' cap' (sn size id l) ∧ Below w.heap.size w w' := by
  have HI := Lib.hid hI
  have KN := Lib.hid (fun w' (h : Sl w' ad cap l) => knows_any ad l cap id w' (by omega) h)
  clear hI
  have b2 := below2 w (.cells #[.slice ad l.length cap] 24) (.cells #[.slice none 0 0] 24)
  have A0 : Bk ((w.alloc (.cells #[.slice ad l.length cap] 24)).alloc (.cells #[.slice none 0 0] 24)) w.heap.size #[.slice ad l.length cap] 24 := (Bk.new w _ _).alloc _
  have A1 : Bk ((w.alloc (.cells #[.slice ad l.length cap] 24)).alloc (.cells #[.slice none 0 0] 24)) (w.heap.size + 1) #[.slice none 0 0] 24 := by have := Bk.new (w.alloc (.cells #[.slice ad l.length cap] 24)) #[.slice none 0 0] 24; rwa [World.size_alloc] at this
  replace b2 := Lib.hid b2
  replace A0 := Lib.hid A0
  replace A1 := Lib.hid A1
  by_cases hk : id ∈ l
  · rw [sn_yes hk, decide_eq_true hk]
    rw [decide_eq_true hk] at KN
    have CL := Lib.hid (fun w' (h : Sl w' ad cap l) => clone_any ad l cap w' (by omega) h)
    go_enter Try.func8, Try.ntmps8
    go_wp2_with (first
      | (go_at_call 11; with_reducible refine (KN.out _ (HI.out.step b2.out)).mono ?_; rintro e w1 ⟨rfl, b1⟩; have a0 := A0.out.step b1; have a1 := A1.out.step b1; have c0 := a0.c 0; simp at c0; have L1 := Lib.hid (below_then b1 b2.out); have R1 := Lib.hid a1; clear a0 a1 b1)
      | (go_at_call 13; with_reducible refine (CL.out _ (HI.out.step L1.out)).mono ?_; rintro e w3 ⟨ad3, c3, rfl, o3, b3⟩; have a3 := R1.out.step b3; have d1 := a3.c 0; simp at d1; have f1 := a3.f 0; have R3 := Lib.hid a3; have O3 := Lib.hid o3; have L3 := Lib.hid (below_then b3 L1.out); clear a3 o3 b3))
    have r4 := R3.out.set 0 (.slice ad3 l.length c3)
    have c4 := r4.c 0
    simp at c4
    have hw1 := R1.out.lt
    refine bodyPost_ret (v := .tuple #[.agg #[.slice ad3 l.length c3], .bool true]) (by simp [results, Try.results8, go_sem, c4]) rfl ⟨ad3, c3, rfl, (O3.out.set hw1 _).mono (by omega), L3.out.setCell (p := ⟨w.heap.size + 1, 0, none⟩) (by simp) _⟩
  · rw [sn_no hk, decide_eq_false hk]
    rw [decide_eq_false hk] at KN
    have CL := Lib.hid (fun w' (h : Sl w' ad cap l) => staying_any ad l cap size w' (by omega) h)
    go_enter Try.func8, Try.ntmps8
    go_wp2_with (first
      | (go_at_call 11; with_reducible refine (KN.out _ (HI.out.step b2.out)).mono ?_; rintro e w1 ⟨rfl, b1⟩; have a0 := A0.out.step b1; have a1 := A1.out.step b1; have c0 := a0.c 0; simp at c0; have L1 := Lib.hid (below_then b1 b2.out); have R1 := Lib.hid a1; clear a0 a1 b1)
      | (go_at_call 15; with_reducible refine (CL.out _ (HI.out.step L1.out)).mono ?_; rintro e w3 ⟨ad3, c3, rfl, o3, rfl⟩; have O3 := Lib.hid o3; clear o3)
      | (go_at_call 14; with_reducible refine (concat_any (w3.heap.size + 1) ad3 (some ⟨w3.heap.size, 0, none⟩) (stayL size l) [id] c3 1 ((w3.alloc (.cells #[.int .i64 id] 2)).alloc (.cells #[.slice ad3 (stayL size l).length c3, .slice (some ⟨w3.heap.size, 0, none⟩) 1 1] 22)) (by have := stayL_le size l; omega) (by simp) (by simp) (by simp) ((Bk.new2 w3 _ _ _).c 0) ((Bk.new2 w3 _ _ _).c 1) (O3.out.step (below2 w3 _ _)) ((Sl.one w3 _ id).step (below1 _ _))).mono ?_; rintro e w5 ⟨ad5, c5, rfl, o5, b5⟩; have r5 := R1.out.step (below_then b5 (below2 w3 _ _)); have d1 := r5.c 0; simp at d1; have f1 := r5.f 0; have R5 := Lib.hid r5; have O5 := Lib.hid o5; have L5 := Lib.hid (below_then (below_then b5 (below2 w3 _ _)) L1.out); clear r5 o5 b5))
    have r4 := R5.out.set 0 (.slice ad5 (stayL size l ++ [id]).length c5)
    have c4 := r4.c 0
    simp at c4
    have hw1 := R1.out.lt
    refine bodyPost_ret (v := .tuple #[.agg #[.slice ad5 (stayL size l ++ [id]).length c5], .bool false]) (by simp [results, Try.results8, go_sem, c4]) rfl ⟨ad5, c5, rfl, (O5.out.set (by simp; omega) _).mono (by simp; omega), L5.out.setCell (p := ⟨w.heap.size + 1, 0, none⟩) (by simp) _⟩
end Go.Proofs.Ytdnmbalmejhbcaa
