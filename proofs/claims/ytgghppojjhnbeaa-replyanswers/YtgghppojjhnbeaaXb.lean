/- The document's Copy, Same, late and Open, walked; the conditions that each theorem names. -/
import Derived.Test.YtgghppojjhnbeaaXa
namespace Go.Proofs.Ytgghppojjhnbeaa
open Go.RowKit

/-- A slice of requests laid behind a row of requests that grows. -/
theorem wpList_aapp {ops : Array Oper} {rest : List Oper} {o : Oper} {a : Act} {Q : Exit → Act → World → Prop} {w : World} (hgd : o.guard = none) (s x : Operand)
    (ho : o.op = .call { callee := .builtin .append, args := #[s, x], argTypes := #[22, 22] })
    (B : Nat) (l : List Ak) (sl : Value) (hs : a.eval s = sl) (hp : w.ownsRow B 41 3 sl l.length (flk Ak.cl l)) (hB : B ≤ w.heap.size)
    (sv : Value) (m : List Ak) (hx : a.eval x = sv) (hm : Al w sv m) (hlen : l.length + m.length ≤ 1000000)
    (h : ∀ sl' w', w'.ownsRow B 41 3 sl' (l ++ m).length (flk Ak.cl (l ++ m)) → w.grownBy w' sl.ownBlock → wpList Try.prog ops Q rest (a.put o.dst sl') w') : wpList Try.prog ops Q (o :: rest) a w := by
  obtain ⟨i0, hi0, hz0, hz1, hz2⟩ := info_parts infoAk
  obtain ⟨ad2, c2, rfl, hm⟩ := hm
  by_cases hm0 : m = []
  · subst hm0
    refine wpList_plain hgd fun K hK' => ?_
    obtain ⟨sa, sc, rfl⟩ := row_form hp
    have hle : l.length ≤ sc := by
      obtain ⟨-, ⟨e, e2⟩ | ⟨g, cp, cur, e, -, -, h1, -⟩⟩ := hp
      · simp only [Value.slice.injEq] at e; omega
      · simp only [Value.slice.injEq] at e; omega
    have hsrc : Src Try.prog i0.size 22 (.slice ad2 0 c2) 0 [] w := by
      cases ad2 with
      | none => exact Src.ofNil _ Try.underlying22 c2
      | some a2 => exact Src.ofSlice _ Try.underlying22 a2 0 c2 [] (by simp) (fun j u hu => by simp at hu) (fun u hu => by simp at hu)
    have hrun := run_append_nothing (P := Try.prog) w 22 22 o.type 41 i0 Try.underlying22 hi0 sa l.length sc hle (.slice ad2 0 c2) hsrc
    unfold Oper.wp
    simp only [List.length_nil] at hx
    simp [execOp, ho, resolve, invoke, builtin, hs, hx, hrun, Result.andThen]
    exact hK' _ _ (by simpa using h (.slice sa l.length sc) w (by simpa using hp) ⟨rfl, rfl, rfl, Nat.le_refl _, fun _ _ _ => rfl⟩)
  · rcases hm with hm | ⟨b, of, rfl, hm⟩
    · exact absurd hm hm0
    have hpos : 0 < m.length := List.length_pos_iff.2 hm0
    refine wpList_append_lies _ hgd s x 22 ho B 41 i0 _ 3 32 Try.underlying22 hi0 hz0 hz1 hz2 rfl (by decide) sl l.length (flk Ak.cl l) hs hp ⟨b, of, none⟩ m.length c2 (flk Ak.cl m) hx (flk_len Ak.len m) (fun j u hu => ?_) (flk_one Ak.one m) hpos (by unfold maxLen; omega) (by omega) hB _ rfl ?_
    · have e : (⟨b, of, none⟩ : Addr).add j = ⟨b, of + j, none⟩ := by unfold Addr.add; split <;> simp_all
      have hl := (List.getElem?_eq_some_iff.1 hu).1
      rw [flk_len Ak.len] at hl
      obtain ⟨y, hy⟩ : ∃ y, m[j / 3]? = some y := ⟨_, List.getElem?_eq_getElem (by omega)⟩
      have h9 := flk_at Ak.len m (j / 3) (j % 3) y hy (by omega)
      rw [show j / 3 * 3 + j % 3 = j by omega, hu] at h9
      have := hm (j / 3) y hy (j % 3) u h9.symm
      rw [e, ← this, show of + j / 3 * 3 + j % 3 = of + j by omega]
    · intro g cp w' own gr at' lt'
      refine h _ w' ?_ gr
      rw [List.length_append, flk_app]
      exact own

theorem own_set {w : World} {base : Nat} {e : TypeId} {s n : Nat} {v : Value} {xs : List Value} (h : w.ownsRow base e s v n xs) {N : Nat} (hN : N < base) (o : Nat) (x : Value) : (w.setCell ⟨N, o, none⟩ x).ownsRow base e s v n xs := by
  refine World.ownsRow.kept (row := some N) h ⟨rfl, rfl, rfl, by simp, fun k _ hk => Below.heap_setCell _ _ _ _ (fun e => hk (by simp [e]))⟩ ?_
  refine .inr fun e => ?_
  have := (h.lt _ e).1
  omega

set_option maxRecDepth 100000 in
set_option maxHeartbeats 4000000 in
theorem rcopy_any (nx : Int) (sv : Value) (L : List Ak) (w : World) (h : Al w sv L) (hl : L.length ≤ 1024) :
    Calls Try.prog 7 #[.agg #[.int .i64 nx, sv]] w fun e w' => ∃ s2, e = .returned (.agg #[.int .i64 nx, s2]) ∧ w'.ownsRow w.heap.size 41 3 s2 L.length (flk Ak.cl L) ∧ Below w.heap.size w w' := by
  have HA := Lib.hid h
  obtain ⟨ad, cap, rfl, -⟩ := h
  obtain ⟨w1, hw1⟩ : ∃ w1, w1 = w.alloc (.cells #[.int .i64 nx, .slice ad L.length cap] 24) := ⟨_, rfl⟩
  have b1 := below1 w (.cells #[.int .i64 nx, .slice ad L.length cap] 24)
  have n1 := Bk.new w #[.int .i64 nx, .slice ad L.length cap] 24
  rw [← hw1] at b1 n1
  have z1 : w1.heap.size = w.heap.size + 1 := by rw [hw1]; simp
  obtain ⟨w2, hw2⟩ : ∃ w2, w2 = w1.alloc (.cells #[.int .i64 0, .slice none 0 0] 24) := ⟨_, rfl⟩
  have b2 := below1 w1 (.cells #[.int .i64 0, .slice none 0 0] 24)
  have n2 := Bk.new w1 #[.int .i64 0, .slice none 0 0] 24
  rw [← hw2] at b2 n2
  rw [z1] at n2
  have z2 : w2.heap.size = w.heap.size + 1 + 1 := by rw [hw2, World.size_alloc, z1]
  obtain ⟨w3, hw3⟩ : ∃ w3, w3 = w2.alloc (.cells #[.int .i64 nx, .slice none 0 0] 24) := ⟨_, rfl⟩
  have b3 := below1 w2 (.cells #[.int .i64 nx, .slice none 0 0] 24)
  have n3 := Bk.new w2 #[.int .i64 nx, .slice none 0 0] 24
  rw [← hw3] at b3 n3
  rw [z2] at n3
  have z3 : w3.heap.size = w.heap.size + 1 + 1 + 1 := by rw [hw3, World.size_alloc, z2]
  have HW1 := Lib.hid hw1.symm
  have HW2 := Lib.hid hw2.symm
  have HW3 := Lib.hid hw3.symm
  have B3 : Below w.heap.size w w3 := (b1.trans (b2.mono (by omega))).trans (b3.mono (by omega))
  have c0 := (n1.below b2).c2.1
  have N1 := (n1.below b2).below b3
  have N2 := n2.below b3
  obtain ⟨e0, e1⟩ := N1.c2
  obtain ⟨g0, g1⟩ := n3.c2
  have H1 := Lib.hid N1
  have H2 := Lib.hid N2
  have H3 := Lib.hid n3
  have HA3 := Lib.hid (HA.out.below B3)
  clear hw1 hw2 hw3 n1 n2 n3 N1 N2 b1 b2 b3
  go_enter Try.func7, Try.ntmps7
  go_wp2_with (first | rw [HW1.out] | rw [HW2.out] | rw [HW3.out] | (at_builtin; refine wpList_aapp rfl _ _ rfl w3.heap.size [] _ rfl (World.ownsRow_nil _ _ _ _) (Nat.le_refl _) _ _ rfl HA3.out (by simp; omega) ?_; intro s4 w4 own4 gr4; have b4 : Below w3.heap.size w3 w4 := below_none gr4 (Nat.le_refl _); have k0 := (H3.out.below b4).c2.1; have k1 := (H3.out.below b4).c2.2; have kf := (H3.out.below b4).f; have m0 := (H2.out.below b4).c2.1; have m1 := (H2.out.below b4).c2.2; have mf := (H2.out.below b4).f; obtain ⟨a4, c4, q4⟩ := row_form own4; subst q4; clear c0 e0 e1 g0 g1))
  have hs4 := b4.size
  refine bodyPost_ret (v := .agg #[.int .i64 nx, .slice a4 L.length c4]) (by simp [results, Try.results7, go_sem, World.cell?_setCell_same, World.cell?_setCell_other, m0, m1]) rfl ⟨_, rfl, ?_, ?_⟩
  · refine World.ownsRow.mono (own_set (own_set (own_set ?_ (by omega) _ _) (by omega) _ _) (by omega) _ _) B3.size
    simpa using own4
  · exact (((B3.trans (b4.mono B3.size)).setCell (p := ⟨w.heap.size + 1 + 1, 1, none⟩) (by simp; omega) _).setCell (p := ⟨w.heap.size + 1, 0, none⟩) (by simp) _).setCell (p := ⟨w.heap.size + 1, 1, none⟩) (by simp) _

set_option maxRecDepth 100000 in
set_option maxHeartbeats 4000000 in
theorem rsame_any (nx : Int) (a b : Value) (L : List Ak) (w : World) (hA : Al w a L) (hB : Al w b L) (hl : L.length ≤ 100000) :
    Calls Try.prog 10 #[.agg #[.int .i64 nx, a], .agg #[.int .i64 nx, b]] w fun e w' => e = .returned (.bool true) ∧ Below w.heap.size w w' := by
  have HA := Lib.hid hA
  have HB := Lib.hid hB
  obtain ⟨aa, ca, rfl, -⟩ := hA
  obtain ⟨ab, cb, rfl, -⟩ := hB
  obtain ⟨w1, hw1⟩ : ∃ w1, w1 = w.alloc (.cells #[.int .i64 nx, .slice aa L.length ca] 24) := ⟨_, rfl⟩
  have b1 := below1 w (.cells #[.int .i64 nx, .slice aa L.length ca] 24)
  have n1 := Bk.new w #[.int .i64 nx, .slice aa L.length ca] 24
  rw [← hw1] at b1 n1
  have z1 : w1.heap.size = w.heap.size + 1 := by rw [hw1]; simp
  obtain ⟨w2, hw2⟩ : ∃ w2, w2 = w1.alloc (.cells #[.int .i64 nx, .slice ab L.length cb] 24) := ⟨_, rfl⟩
  have b2 := below1 w1 (.cells #[.int .i64 nx, .slice ab L.length cb] 24)
  have n2 := Bk.new w1 #[.int .i64 nx, .slice ab L.length cb] 24
  rw [← hw2] at b2 n2
  rw [z1] at n2
  have HW1 := Lib.hid hw1.symm
  have HW2 := Lib.hid hw2.symm
  have B2 : Below w.heap.size w w2 := b1.trans (b2.mono (by omega))
  have H1 := Lib.hid (n1.below b2)
  have H2 := Lib.hid n2
  obtain ⟨e0, e1⟩ := (n1.below b2).c2
  obtain ⟨g0, g1⟩ := n2.c2
  clear hw1 hw2 n1 n2 b1 b2
  go_enter Try.func10, Try.ntmps10
  go_wp2_with (first | rw [HW1.out] | rw [HW2.out])
  go_loopg [5, 23] L.length (fun g s5 s23 wx => ∃ j : Nat, j + g = L.length ∧ s23 = .int .i64 j ∧ Below w2.heap.size w2 wx)
  case atStart => exact ⟨0, by omega, rfl, Below.refl _ _⟩
  case round =>
    clear e0 e1 g0 g1
    obtain ⟨j, hj, rfl, hb⟩ := hrel
    cases gk with
    | zero =>
      obtain rfl : j = L.length := by omega
      go_wp2
      go_ret
      exact ⟨rfl, B2.trans (hb.mono B2.size)⟩
    | succ g =>
      have hja : j < L.length := by omega
      obtain ⟨d, hd⟩ : ∃ d, L[j]? = some d := ⟨_, List.getElem?_eq_getElem hja⟩
      obtain ⟨p1, o1, q1, t1, h1⟩ := ((HA.out.below B2).below hb).at (by omega)
      obtain ⟨p2, o2, q2, t2, h2⟩ := ((HB.out.below B2).below hb).at (by omega)
      simp only [Value.slice.injEq, true_and] at t1 t2
      obtain ⟨rfl, rfl⟩ := t1
      obtain ⟨rfl, rfl⟩ := t2
      obtain ⟨c0, c1, c2⟩ := a3 (h1 j d hd)
      obtain ⟨k0, k1, k2⟩ := a3 (h2 j d hd)
      obtain ⟨e0, e1⟩ := (H1.out.below hb).c2
      obtain ⟨g0, g1⟩ := (H2.out.below hb).c2
      have hji : (j : Int) < (L.length : Int) := by omega
      clear h1 h2 hd
      go_wp2
      go_quiet (fail)
      go_wp2
      go_roundg g
      case measure => omega
      case rel => exact ⟨j + 1, by omega, by simp, by first | exact hb | exact below_drewN hb _⟩

/-- Is a request late? -/
def lat (now : Int) (a : Ak) : Bool := (a.un != 0) && decide (a.un < now)
set_option maxRecDepth 100000 in
set_option maxHeartbeats 2000000 in
theorem rlate_any (a : Ak) (now : Int) (w : World) : Calls Try.prog 20 #[.agg a.cs, .int .i64 now] w fun e w' => e = .returned (.bool (lat now a)) ∧ Below w.heap.size w w' := by
  have b1 := below1 w (.cells a.cs 41)
  unfold lat
  cases h1 : (a.un != 0) with
  | false =>
    go_enter Try.func20, Try.ntmps20
    go_wp2_with fail
    go_ret
    exact ⟨rfl, b1⟩
  | true =>
    go_enter Try.func20, Try.ntmps20
    go_wp2_with fail
    go_ret
    exact ⟨rfl, b1⟩
end Go.Proofs.Ytgghppojjhnbeaa
