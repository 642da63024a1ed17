/- What comes out is fit; what ReplyAnswers asks of the package; the conditions that each theorem names. -/
import Derived.Test.YtgghppojjhnbeaaXf
namespace Go.Proofs.Ytgghppojjhnbeaa
open Go.RowKit

theorem fit1_weak {nx l l' : Int} {a : Ak} (h : fit1 nx l a = true) (hl : l' ≤ l) : fit1 nx l' a = true := by
  simp only [fit1, Bool.and_eq_true, decide_eq_true_eq] at h ⊢
  omega
theorem fitL_weak {nx l l' : Int} : ∀ {L : List Ak}, fitL nx l L = true → l' ≤ l → fitL nx l' L = true
  | [], _, _ => rfl
  | a :: r, h, hl => by
    simp only [fitL, Bool.and_eq_true] at h ⊢
    exact ⟨fit1_weak h.1 hl, h.2⟩
theorem fitL_filter (f : Ak → Bool) {nx : Int} : ∀ (l : Int) (L : List Ak), fitL nx l L = true → fitL nx l (L.filter f) = true
  | _, [], _ => rfl
  | l, a :: r, h => by
    simp only [fitL, Bool.and_eq_true] at h
    have ih := fitL_filter f a.co r h.2
    have hlt : l < a.co := by have := h.1; simp only [fit1, Bool.and_eq_true, decide_eq_true_eq] at this; omega
    cases hf : f a with
    | true => rw [List.filter_cons_of_pos hf]; simp only [fitL, Bool.and_eq_true]; exact ⟨h.1, ih⟩
    | false => rw [List.filter_cons_of_neg (by simp [hf])]; exact fitL_weak ih (by omega)
theorem fitL_more {nx nx' : Int} (hn : nx ≤ nx') : ∀ (l : Int) (L : List Ak), fitL nx l L = true → fitL nx' l L = true
  | _, [], _ => rfl
  | l, a :: r, h => by
    simp only [fitL, Bool.and_eq_true] at h ⊢
    refine ⟨?_, fitL_more hn a.co r h.2⟩
    have := h.1
    simp only [fit1, Bool.and_eq_true, decide_eq_true_eq] at this ⊢
    omega
theorem fitL_last {nx : Int} : ∀ (l : Int) (L : List Ak), fitL nx l L = true → l ≤ nx → lstC l L ≤ nx
  | _, [], _, h => h
  | l, a :: r, h, _ => by
    simp only [fitL, Bool.and_eq_true] at h
    have h1 := h.1
    simp only [fit1, Bool.and_eq_true, decide_eq_true_eq] at h1
    exact fitL_last a.co r h.2 (by omega)
theorem fitS_iff {nx : Int} {L : List Ak} (h : fitS nx L = true) : 0 ≤ nx ∧ nx ≤ 4611686018427387904 ∧ L.length ≤ 1024 ∧ fitL nx 0 L = true := by
  simp only [fitS, Bool.and_eq_true, decide_eq_true_eq] at h
  exact ⟨h.1.1.1, h.1.1.2, h.1.2, h.2⟩
theorem fitS_mk {nx : Int} {L : List Ak} (h : 0 ≤ nx ∧ nx ≤ 4611686018427387904 ∧ L.length ≤ 1024 ∧ fitL nx 0 L = true) : fitS nx L = true := by
  simp only [fitS, Bool.and_eq_true, decide_eq_true_eq]
  exact ⟨⟨⟨h.1, h.2.1⟩, h.2.2.1⟩, h.2.2.2⟩
theorem fitS_filter (f : Ak → Bool) {nx : Int} {L : List Ak} (h : fitS nx L = true) : fitS nx (L.filter f) = true := by
  obtain ⟨h1, h2, h3, h4⟩ := fitS_iff h
  exact fitS_mk ⟨h1, h2, Nat.le_trans (List.length_filter_le _ _) h3, fitL_filter f 0 L h4⟩
theorem fitS_open {nx : Int} {L : List Ak} (h : fitS nx L = true) (tp : ByteArray) (un : Int) (hu : 0 ≤ un ∧ un ≤ 1099511627776) : fitS (opN nx L) (opL nx L tp un) = true := by
  obtain ⟨h1, h2, h3, h4⟩ := fitS_iff h
  unfold opN opL
  cases hF : opF nx L with
  | true => simpa using h
  | false =>
    simp only [Bool.false_eq_true, if_false]
    have h5 : ¬ 1024 ≤ L.length := fun h => by simp [opF, h] at hF
    have h6 : ¬ 4611686018427387904 ≤ nx := fun h => by simp [opF, h] at hF
    refine fitS_mk ⟨by omega, by omega, by rw [List.length_append]; simp; omega, ?_⟩
    rw [fitL_app, fitL_more (by omega) 0 L h4, Bool.true_and]
    have := fitL_last 0 L h4 h1
    simp only [fitL, fit1, Bool.and_true, Bool.and_eq_true, decide_eq_true_eq]
    omega

/-- A row of requests that may be written, in memory from a block on. -/
def Af (w : World) (base : Nat) (sv : Value) (L : List Ak) : Prop :=
  ∃ ad cap, sv = .slice ad L.length cap ∧ (L = [] ∨ ∃ b o cs T, ad = some ⟨b, o, none⟩ ∧ base ≤ b ∧ w.heap[b]? = some (.cells cs T (0, 0)) ∧ ∀ (j : Nat) x, L[j]? = some x → ∀ (q : Nat) v, x.cl[q]? = some v → cs[o + j * 3 + q]? = some v)
theorem Af.al {w : World} {base : Nat} {sv : Value} {L : List Ak} (h : Af w base sv L) : Al w sv L := by
  obtain ⟨ad, cap, e, h⟩ := h
  refine ⟨ad, cap, e, ?_⟩
  rcases h with h | ⟨b, o, cs, T, e2, -, hh, h⟩
  · exact .inl h
  · refine .inr ⟨b, o, e2, fun j x hj q v hv => ?_⟩
    rw [Bk.c (T := T) hh]
    exact h j x hj q v hv
theorem Af.below {w w' : World} {base : Nat} {sv : Value} {L : List Ak} (h : Af w base sv L) (hb : Below w.heap.size w w') : Af w' base sv L := by
  obtain ⟨ad, cap, e, h⟩ := h
  refine ⟨ad, cap, e, ?_⟩
  rcases h with h | ⟨b, o, cs, T, e2, h2, hh, h⟩
  · exact .inl h
  · exact .inr ⟨b, o, cs, T, e2, h2, Bk.below (T := T) hh hb, h⟩
theorem own_af {w : World} {base : Nat} {sv : Value} {L : List Ak} (h : w.ownsRow base 41 3 sv L.length (flk Ak.cl L)) : Af w base sv L := by
  have hk := own_rk Ak.len h
  obtain ⟨hl, ⟨rfl, h0⟩ | ⟨g, cap, cur, rfl, hb, hh, hc, hm, hs, ht⟩⟩ := h
  · obtain rfl : L = [] := List.eq_nil_of_length_eq_zero h0
    exact ⟨none, 0, rfl, .inl rfl⟩
  · refine ⟨_, cap, rfl, ?_⟩
    obtain ⟨ad, c, e, hk⟩ := hk
    simp only [Value.slice.injEq] at e
    obtain ⟨rfl, -, rfl⟩ := e
    rcases hk with hk | ⟨b, o, e2, hk⟩
    · exact .inl hk
    · simp only [Option.some.injEq, Addr.mk.injEq] at e2
      obtain ⟨rfl, rfl, -⟩ := e2
      refine .inr ⟨g, 0, cur, _, rfl, hb, hh, fun j x hj q v hv => ?_⟩
      have h9 := hk j x hj q v hv
      rw [Bk.c hh] at h9
      exact h9

/-- What the laws ask of the package, of a fit state. -/
def KOpe : Prop := ∀ (nx : Int) (sv : Value) (L : List Ak) (tp : ByteArray) (un : Int) (w : World), Al w sv L → fitS nx L = true → (0 ≤ un ∧ un ≤ 1099511627776) →
  Calls Try.prog 8 #[.agg #[.int .i64 nx, sv], .string tp, .int .i64 un] w fun e w' => ∃ s2, e = .returned (.tuple #[.agg #[.int .i64 (opN nx L), s2], .int .i64 (opR nx L), .int .i64 (opE nx L)]) ∧ Al w' s2 (opL nx L tp un) ∧ Below w.heap.size w w'
def KAns : Prop := ∀ (nx : Int) (sv : Value) (L : List Ak) (co now : Int) (tp : ByteArray) (w : World), Al w sv L → fitS nx L = true → (0 ≤ now ∧ now ≤ 1099511627776) →
  Calls Try.prog 11 #[.agg #[.int .i64 nx, sv], .int .i64 co, .string tp, .int .i64 now] w fun e w' => ∃ s2, e = .returned (.tuple #[.agg #[.int .i64 nx, s2], .int .i64 (anE now co tp L)]) ∧ Al w' s2 (anL co tp L) ∧ Below w.heap.size w w'
def KExp : Prop := ∀ (nx : Int) (sv : Value) (L : List Ak) (now : Int) (w : World), Al w sv L → fitS nx L = true → (0 ≤ now ∧ now ≤ 1099511627776) →
  Calls Try.prog 13 #[.agg #[.int .i64 nx, sv], .int .i64 now] w fun e w' => ∃ s2 s3, e = .returned (.tuple #[.agg #[.int .i64 nx, s2], s3]) ∧ Af w' w.heap.size s2 (exL now L) ∧ Al w' s3 (exG now L) ∧ Below w.heap.size w w'

theorem aw1 : opN 0 [] = 1 ∧ opR 0 [] = 1 ∧ opE 0 [] = 0 ∧ opL 0 [] ⟨#[114]⟩ 5 = [⟨1, 5, ⟨#[114]⟩⟩] := ⟨rfl, rfl, rfl, rfl⟩
theorem aw2 : anE 5 1 ⟨#[114]⟩ [⟨1, 5, ⟨#[114]⟩⟩] = 0 ∧ anL 1 ⟨#[114]⟩ [⟨1, 5, ⟨#[114]⟩⟩] = [] ∧ anE 5 1 ⟨#[114]⟩ [] = 230 := by
  refine ⟨?_, ?_, rfl⟩
  · simp [anE, an1, mtc, lat]
  · simp [anL, mtc]
set_option maxRecDepth 100000 in
set_option maxHeartbeats 2000000 in
theorem awake_any (KO : KOpe) (KA : KAns) (w : World) : Calls Try.prog 6 #[] w fun e w' => e = .returned (.bool true) ∧ Below w.heap.size w w' := by
  obtain ⟨x1, x2, x3, x4⟩ := aw1
  obtain ⟨y1, y2, y3⟩ := aw2
  have K1 := Lib.hid (KO 0 (.slice none 0 0) [] ⟨#[114]⟩ 5 w ⟨none, 0, rfl, .inl rfl⟩ rfl (by decide))
  rw [x1, x2, x3, x4] at K1
  have HA := Lib.hid KA
  clear KO KA x1 x2 x3 x4
  go_enter Try.func6, Try.ntmps6
  go_wp2_with fail
  refine K1.out.mono ?_
  rintro e w1 ⟨s1, rfl, a1, b1⟩
  obtain ⟨ad1, c1, rfl, -⟩ := id a1
  have b2 := below1 w1 (.cells #[.int .i64 1, .slice ad1 1 c1] 24)
  have n2 := Bk.new w1 #[.int .i64 1, .slice ad1 1 c1] 24
  obtain ⟨w2, hw2⟩ : ∃ w2, w2 = w1.alloc (.cells #[.int .i64 1, .slice ad1 1 c1] 24) := ⟨_, rfl⟩
  rw [← hw2] at b2 n2
  have HW2 := Lib.hid hw2.symm
  obtain ⟨q0, q1⟩ := n2.c2
  have K2 := Lib.hid (HA.out 1 _ _ 1 5 ⟨#[114]⟩ w2 (a1.below b2) rfl (by decide))
  rw [y1, y2] at K2
  have N2 := Lib.hid n2
  have B2 : Below w.heap.size w w2 := b1.trans (b2.mono b1.size)
  have hlt := n2.lt
  clear hw2 n2 a1 b2
  go_wp2_with (rw [HW2.out])
  refine K2.out.mono ?_
  rintro e w3 ⟨s3, rfl, a3', b3⟩
  obtain ⟨ad3, c3, rfl, -⟩ := id a3'
  clear q0 q1
  have n3 := N2.out.below b3
  obtain ⟨q0, q1⟩ := n3.c2
  have qf := n3.f
  have hs3 := b3.size
  obtain ⟨w4, hw4⟩ : ∃ w4, w4 = (w3.setCell ⟨w1.heap.size, 0, none⟩ (.int .i64 1)).setCell ⟨w1.heap.size, 1, none⟩ (.slice ad3 0 c3) := ⟨_, rfl⟩
  have HW4 := Lib.hid hw4.symm
  have n4 : Bk w4 w1.heap.size #[.int .i64 1, .slice ad3 0 c3] 24 := by rw [hw4]; exact (n3.set 0 _).set 1 _
  obtain ⟨r0, r1⟩ := n4.c2
  have B4 : Below w.heap.size w w4 := by
    rw [hw4]
    exact ((B2.trans (b3.mono B2.size)).setCell (p := ⟨w1.heap.size, 0, none⟩) (by simp; exact b1.size) _).setCell (p := ⟨w1.heap.size, 1, none⟩) (by simp; exact b1.size) _
  have K4 := Lib.hid (HA.out 1 (.slice ad3 0 c3) [] 1 5 ⟨#[114]⟩ w4 ⟨ad3, c3, rfl, .inl rfl⟩ rfl (by decide))
  rw [y3] at K4
  clear hw4 n3 n4 a3'
  go_wp2_with (rw [HW4.out])
  refine K4.out.mono ?_
  rintro e w5 ⟨s5, rfl, a5, b5⟩
  obtain ⟨ad5, c5, rfl, -⟩ := id a5
  clear q0 q1 qf r0 r1 a5
  go_wp2_with fail
  go_ret
  exact ⟨rfl, (B4.trans (b5.mono B4.size)).trans ((below1 w5 _).mono (by have := B4.size; have := b5.size; omega))⟩
end Go.Proofs.Ytgghppojjhnbeaa
