/- The document's Seen; the conditions: the row in memory, of a size that can be. -/
import Derived.Test.YtdnmbalmejhbcaaDg
namespace Go.Proofs.Ytdnmbalmejhbcaa
open Go.RowKit Go.Shelf

def rsn (size id : Int) (l : List Int) : List Int := if id ∈ l then l else if size < l.length + 1 then (l ++ [id]).tail else l ++ [id]
/-- A fit state: both tell the same. -/
theorem rsn_sn {size id : Int} {l : List Int} (h1 : 1 ≤ size) (h2 : (l.length : Int) ≤ size) : rsn size id l = sn size id l := by
  unfold rsn sn stayL
  split
  · rfl
  · by_cases h : size < (l.length : Int) + 1
    · rw [if_pos h, if_pos (by omega)]
      cases l with
      | nil => simp at h; omega
      | cons x l => rfl
    · rw [if_neg h, if_neg (by omega)]
theorem bk3 (w : World) (a b c : Array Value) (T : TypeId) : Bk (((w.alloc (.cells a T)).alloc (.cells b T)).alloc (.cells c T)) w.heap.size a T ∧ Bk (((w.alloc (.cells a T)).alloc (.cells b T)).alloc (.cells c T)) (w.heap.size + 1) b T ∧ Bk (((w.alloc (.cells a T)).alloc (.cells b T)).alloc (.cells c T)) (w.heap.size + 1 + 1) c T := by
  refine ⟨((Bk.new w _ _).alloc _).alloc _, (Bk.new2 w _ _ _).alloc _, ?_⟩
  have := Bk.new ((w.alloc (.cells a T)).alloc (.cells b T)) c T
  simpa only [World.size_alloc] using this
/-- Three boxes. -/
def B3 (w : World) (N : Nat) (T : TypeId) (a b c : Value) : Prop := Bk w N #[a] T ∧ Bk w (N + 1) #[b] T ∧ Bk w (N + 1 + 1) #[c] T
theorem B3.under {w w' : World} {N : Nat} {T : TypeId} {a b c : Value} (h : B3 w N T a b c) {M : Nat} (hb : Below M w w') (hM : N + 1 + 1 < M) : B3 w' N T a b c := ⟨h.1.under hb (by omega), h.2.1.under hb (by omega), h.2.2.under hb hM⟩
theorem B3.step {w w' : World} {N : Nat} {T : TypeId} {a b c : Value} (h : B3 w N T a b c) (hb : Below w.heap.size w w') : B3 w' N T a b c := h.under hb h.2.2.lt
theorem B3.out {w : World} {N : Nat} {T : TypeId} {a b c : Value} (h : B3 w N T a b c) (v : Value) : B3 (w.setCell ⟨N + 1 + 1, 0, none⟩ v) N T a b v := ⟨h.1.other _ _ (by simp; omega), h.2.1.other _ _ (by simp), h.2.2.set 0 v⟩
theorem B3.res {w : World} {N : Nat} {T : TypeId} {a b c : Value} (h : B3 w N T a b c) (v : Value) : B3 (w.setCell ⟨N + 1, 0, none⟩ v) N T a v c := ⟨h.1.other _ _ (by simp), h.2.1.set 0 v, h.2.2.other _ _ (by simp)⟩
theorem B3.cs {w : World} {N : Nat} {T : TypeId} {a b c : Value} (h : B3 w N T a b c) : w.cell? ⟨N, 0, none⟩ = some a ∧ w.cell? ⟨N + 1, 0, none⟩ = some b ∧ w.cell? ⟨N + 1 + 1, 0, none⟩ = some c := ⟨by simpa using h.1.c 0, by simpa using h.2.1.c 0, by simpa using h.2.2.c 0⟩
theorem B3.fs {w : World} {N : Nat} {T : TypeId} {a b c : Value} (h : B3 w N T a b c) : w.frozen? ⟨N + 1, 0, none⟩ = false ∧ w.frozen? ⟨N + 1 + 1, 0, none⟩ = false := ⟨h.2.1.f 0, h.2.2.f 0⟩
theorem below3 (w : World) (o p q : Obj) : Below w.heap.size w (((w.alloc o).alloc p).alloc q) := below_al (below2 w o p)
theorem fin_cut {w w8 : World} {T : TypeId} {a b c : Value} {a8 : Addr} {c8 : Nat} {xs : List Int} (R8 : B3 w8 w.heap.size T a b c) (O8 : Ow w8 (w.heap.size + 3) (some a8) c8 xs) (hx : 0 < xs.length) (L8 : Below w.heap.size w w8) (v0 v1 : Value) :
    (((w8.setCell ⟨w.heap.size + 1 + 1, 0, none⟩ v0).setCell ⟨w.heap.size + 1 + 1, 0, none⟩ v1).setCell ⟨w.heap.size + 1, 0, none⟩ v1).cell? ⟨w.heap.size + 1, 0, none⟩ = some v1 ∧ Sl (((w8.setCell ⟨w.heap.size + 1 + 1, 0, none⟩ v0).setCell ⟨w.heap.size + 1 + 1, 0, none⟩ v1).setCell ⟨w.heap.size + 1, 0, none⟩ v1) (if c8 = 1 then some a8 else some (a8.add 1)) (c8 - 1) xs.tail ∧ Below w.heap.size w (((w8.setCell ⟨w.heap.size + 1 + 1, 0, none⟩ v0).setCell ⟨w.heap.size + 1 + 1, 0, none⟩ v1).setCell ⟨w.heap.size + 1, 0, none⟩ v1) :=
  ⟨(((R8.out v0).out v1).res v1).cs.2.1, (((O8.set (A := w.heap.size + 1 + 1) (by omega) v0).set (A := w.heap.size + 1 + 1) (by omega) v1).set (A := w.heap.size + 1) (by omega) v1).sl.tail hx rfl,
   ((L8.setCell (p := ⟨w.heap.size + 1 + 1, 0, none⟩) (by simp; omega) v0).setCell (p := ⟨w.heap.size + 1 + 1, 0, none⟩) (by simp; omega) v1).setCell (p := ⟨w.heap.size + 1, 0, none⟩) (by simp) v1⟩
set_option maxRecDepth 100000 in
set_option maxHeartbeats 2000000 in
theorem rseen_any (ad : Option Addr) (l : List Int) (cap : Nat) (size id : Int) (w : World) (hl : l.length ≤ 10000) (hI : Sl w ad cap l) :
    Calls Try.prog 9 #[.agg #[.slice ad l.length cap], .int .i64 size, .int .i64 id] w fun e w' => ∃ ad' cap', e = .returned (.tuple #[.agg #[.slice ad' (rsn size id l).length cap'], .bool (decide (id ∈ l))]) ∧ Sl w' ad' cap' (rsn size id l) ∧ Below w.heap.size w w' := by
  have HI := Lib.hid hI
  have KN := Lib.hid (fun w' (h : Sl w' ad cap l) => rknows_any ad l cap id w' (by omega) h)
  clear hI
  have A : Hid (B3 _ w.heap.size 24 (.slice ad l.length cap) (.slice none 0 0) (.slice none 0 0)) := Lib.hid (bk3 w #[.slice ad l.length cap] #[.slice none 0 0] #[.slice none 0 0] 24)
  by_cases hk : id ∈ l
  · rw [decide_eq_true hk] at KN
    rw [decide_eq_true hk, show rsn size id l = l from if_pos hk]
    go_enter Try.func9, Try.ntmps9
    go_wp2_with (first
      | (at_builtin; refine wpList_app rfl _ _ rfl (w.heap.size + 3) none 0 [] rfl (Ow.nil _ _) ad cap l rfl (HI.out.step (below3 w _ _ _)) (by simp; omega) (by simp) ?_; intro ad4 c4 w4 o4 b4; have r := A.out.under b4 (by omega); obtain ⟨x0, x1, x2⟩ := r.cs; obtain ⟨y1, y2⟩ := r.fs; have O4 := Lib.hid o4; have L4 := Lib.hid ((below3 w _ _ _).trans (b4.mono (by omega))); have R := Lib.hid r; clear r o4 b4)
      | (go_at_call 12; with_reducible refine (KN.out _ (HI.out.step (L4.out.setCell (p := ⟨w.heap.size + 1 + 1, 0, none⟩) (by simp; omega) _))).mono ?_; rintro e w6 ⟨rfl, b6⟩; have r := (R.out.out (.slice ad4 l.length c4)).step b6; obtain ⟨z0, z1, z2⟩ := r.cs; obtain ⟨t1, t2⟩ := r.fs; have R6 := Lib.hid r; have O6 := Lib.hid ((O4.out.set (by omega) (.slice ad4 l.length c4)).step b6); have L6 := Lib.hid (below_then b6 (L4.out.setCell (p := ⟨w.heap.size + 1 + 1, 0, none⟩) (by simp; omega) (.slice ad4 l.length c4))); clear r b6))
    obtain ⟨q0, q1, q2⟩ := (R6.out.res (.slice ad4 l.length c4)).cs
    have O7 := O6.out.set (A := w.heap.size + 1) (by omega) (.slice ad4 l.length c4)
    refine bodyPost_ret (v := .tuple #[.agg #[.slice ad4 l.length c4], .bool true]) (by simp [results, Try.results9, go_sem, q1]) rfl ⟨ad4, c4, rfl, by simpa using O7.sl, L6.out.setCell (p := ⟨w.heap.size + 1, 0, none⟩) (by simp) _⟩
  · rw [decide_eq_false hk] at KN
    rw [decide_eq_false hk, show rsn size id l = if size < l.length + 1 then (l ++ [id]).tail else l ++ [id] from if_neg hk]
    by_cases hz : size < l.length + 1
    · rw [if_pos hz]
      go_enter Try.func9, Try.ntmps9
      go_wp2_with (first
        | (at_builtin; refine wpList_app rfl _ _ rfl (w.heap.size + 3) none 0 [] rfl (Ow.nil _ _) ad cap l rfl (HI.out.step (below3 w _ _ _)) (by simp; omega) (by simp) ?_; intro ad4 c4 w4 o4 b4; have r := A.out.under b4 (by omega); obtain ⟨x0, x1, x2⟩ := r.cs; obtain ⟨y1, y2⟩ := r.fs; have O4 := Lib.hid o4; have L4 := Lib.hid ((below3 w _ _ _).trans (b4.mono (by omega))); have R := Lib.hid r; clear r o4 b4)
        | (go_at_call 12; with_reducible refine (KN.out _ (HI.out.step (L4.out.setCell (p := ⟨w.heap.size + 1 + 1, 0, none⟩) (by simp; omega) _))).mono ?_; rintro e w6 ⟨rfl, b6⟩; have r := (R.out.out (.slice ad4 l.length c4)).step b6; obtain ⟨z0, z1, z2⟩ := r.cs; obtain ⟨t1, t2⟩ := r.fs; have R6 := Lib.hid r; have O6 := Lib.hid ((O4.out.set (by omega) (.slice ad4 l.length c4)).step b6); have L6 := Lib.hid (below_then b6 (L4.out.setCell (p := ⟨w.heap.size + 1 + 1, 0, none⟩) (by simp; omega) (.slice ad4 l.length c4))); clear r b6)
        | (at_builtin; refine wpList_app rfl _ _ rfl (w.heap.size + 3) ad4 c4 l rfl (by simpa using O6.out.step (below1 w6 _)) (some ⟨w6.heap.size, 0, none⟩) 1 [id] rfl (Sl.one w6 _ id) (by simp; omega) (by have := R6.out.2.2.lt; simp; omega) ?_; intro ad8 c8 w8 o8 b8; obtain ⟨g8, of8, rfl, hg8, _⟩ := o8.sl.cell (by simp); have hle := o8.sl.le; simp at hle; have HT := Lib.hid (o8.sl.tail (by simp) rfl); have r := (R6.out.step (below1 w6 _)).under b8 (by omega); obtain ⟨p0, p1, p2⟩ := r.cs; obtain ⟨s1, s2⟩ := r.fs; have O8 := Lib.hid o8; have L8 := Lib.hid ((below_al L6.out).trans (b8.mono (by omega))); have R8 := Lib.hid r; clear r o8 b8))
      · have hc8 : c8 = 1 := by omega
        obtain ⟨q, S, L⟩ := fin_cut R8.out O8.out (by simp) L8.out (.slice (some ⟨g8, of8, none⟩) (l.length + 1) 1) (.slice (some ⟨g8, of8, none⟩) l.length 0)
        rw [if_pos hc8] at S
        refine bodyPost_ret (v := .tuple #[.agg #[.slice (some ⟨g8, of8, none⟩) l.length 0], .bool false]) (by simp [results, Try.results9, go_sem, q]) rfl ⟨some ⟨g8, of8, none⟩, 0, by simp, by simpa [hc8] using S, L⟩
      · have hc8 : ¬ c8 = 1 := by omega
        obtain ⟨q, S, L⟩ := fin_cut R8.out O8.out (by simp) L8.out (.slice (some ⟨g8, of8, none⟩) (l.length + 1) c8) (.slice (some ⟨g8, of8 + 1, none⟩) l.length (c8 - 1))
        rw [if_neg hc8] at S
        refine bodyPost_ret (v := .tuple #[.agg #[.slice (some ⟨g8, of8 + 1, none⟩) l.length (c8 - 1)], .bool false]) (by simp [results, Try.results9, go_sem, q]) rfl ⟨some ⟨g8, of8 + 1, none⟩, c8 - 1, by simp, S, L⟩
    · rw [if_neg hz]
      go_enter Try.func9, Try.ntmps9
      go_wp2_with (first
        | (at_builtin; refine wpList_app rfl _ _ rfl (w.heap.size + 3) none 0 [] rfl (Ow.nil _ _) ad cap l rfl (HI.out.step (below3 w _ _ _)) (by simp; omega) (by simp) ?_; intro ad4 c4 w4 o4 b4; have r := A.out.under b4 (by omega); obtain ⟨x0, x1, x2⟩ := r.cs; obtain ⟨y1, y2⟩ := r.fs; have O4 := Lib.hid o4; have L4 := Lib.hid ((below3 w _ _ _).trans (b4.mono (by omega))); have R := Lib.hid r; clear r o4 b4)
        | (go_at_call 12; with_reducible refine (KN.out _ (HI.out.step (L4.out.setCell (p := ⟨w.heap.size + 1 + 1, 0, none⟩) (by simp; omega) _))).mono ?_; rintro e w6 ⟨rfl, b6⟩; have r := (R.out.out (.slice ad4 l.length c4)).step b6; obtain ⟨z0, z1, z2⟩ := r.cs; obtain ⟨t1, t2⟩ := r.fs; have R6 := Lib.hid r; have O6 := Lib.hid ((O4.out.set (by omega) (.slice ad4 l.length c4)).step b6); have L6 := Lib.hid (below_then b6 (L4.out.setCell (p := ⟨w.heap.size + 1 + 1, 0, none⟩) (by simp; omega) (.slice ad4 l.length c4))); clear r b6)
        | (at_builtin; refine wpList_app rfl _ _ rfl (w.heap.size + 3) ad4 c4 l rfl (by simpa using O6.out.step (below1 w6 _)) (some ⟨w6.heap.size, 0, none⟩) 1 [id] rfl (Sl.one w6 _ id) (by simp; omega) (by have := R6.out.2.2.lt; simp; omega) ?_; intro ad8 c8 w8 o8 b8; have r := (R6.out.step (below1 w6 _)).under b8 (by omega); obtain ⟨p0, p1, p2⟩ := r.cs; obtain ⟨s1, s2⟩ := r.fs; have O8 := Lib.hid o8; have L8 := Lib.hid ((below_al L6.out).trans (b8.mono (by omega))); have R8 := Lib.hid r; clear r o8 b8))
      obtain ⟨q0, q1, q2⟩ := ((R8.out.out (.slice ad8 (l ++ [id]).length c8)).res (.slice ad8 (l ++ [id]).length c8)).cs
      have O9 := (O8.out.set (A := w.heap.size + 1 + 1) (by omega) (.slice ad8 (l ++ [id]).length c8)).set (A := w.heap.size + 1) (by omega) (.slice ad8 (l ++ [id]).length c8)
      have L9 := (L8.out.setCell (p := ⟨w.heap.size + 1 + 1, 0, none⟩) (by simp; omega) (.slice ad8 (l ++ [id]).length c8)).setCell (p := ⟨w.heap.size + 1, 0, none⟩) (by simp) (.slice ad8 (l ++ [id]).length c8)
      simp only [List.length_append, List.length_cons, List.length_nil, Nat.zero_add] at q1 O9 L9
      refine bodyPost_ret (v := .tuple #[.agg #[.slice ad8 (l.length + 1) c8], .bool false]) (by simp [results, Try.results9, go_sem, q1]) rfl ⟨ad8, c8, by simp, O9.sl, L9⟩
end Go.Proofs.Ytdnmbalmejhbcaa
