/- The package's maps, what is late, Expire; the conditions that each theorem names. -/
import Derived.Test.YtgghppojjhnbeaaXj
namespace Go.Proofs.Ytgghppojjhnbeaa
open Go.RowKit

def lk (l : List (Int × Int)) (i : Int) : Option Int := (l.find? fun x => x.1 == i).map (·.2)
theorem findNow_lk (i : Int) : ∀ (es : List MapEntry) (l : List (Int × Int)) (k : Nat), es.map (fun e => (e.key, e.val)) = l.map (fun x => (Value.int .i64 x.1, Value.int .i64 x.2)) →
    ∃ r, Instr.findNow (.int .i64) (.int .i64 i) es k = some r ∧ r.map (·.2) = (lk l i).map (Value.int .i64) ∧ ((l.map (·.1)).Nodup → ∀ n v, r = some (n, v) → k ≤ n ∧ (es.eraseIdx (n - k)).map (fun e => (e.key, e.val)) = (l.filter fun x => x.1 != i).map (fun x => (Value.int .i64 x.1, Value.int .i64 x.2)))
  | [], [], _, _ => ⟨none, rfl, rfl, fun _ n v h => nomatch h⟩
  | [], _ :: _, _, h => by simp at h
  | _ :: _, [], _, h => by simp at h
  | e :: es, (j, b) :: l, k, h => by
    simp only [List.map_cons, List.cons.injEq, Prod.mk.injEq] at h
    obtain ⟨⟨h1, h2⟩, h3⟩ := h
    by_cases hij : i = j
    · subst hij
      refine ⟨some (k, e.val), by simp [Instr.findNow, Instr.sameNow, h1], by simp [lk, h2], fun hn n v hr => ?_⟩
      simp only [Option.some.injEq, Prod.mk.injEq] at hr
      obtain ⟨rfl, rfl⟩ := hr
      refine ⟨Nat.le_refl _, ?_⟩
      rw [Nat.sub_self, List.eraseIdx_cons_zero, h3]
      simp only [List.map_cons, List.nodup_cons] at hn
      rw [List.filter_cons_of_neg (by simp)]
      congr 1
      symm
      rw [List.filter_eq_self]
      intro x hx
      simp
      intro e'
      exact hn.1 (List.mem_map.2 ⟨x, hx, e'⟩)
    · obtain ⟨r, hr, hr', hd⟩ := findNow_lk i es l (k + 1) h3
      have hji : ((j : Int) == i) = false := by simpa using fun e => hij e.symm
      refine ⟨r, by simp [Instr.findNow, Instr.sameNow, h1, show (i == j) = false by simpa using hij, hr], by rw [hr']; simp [lk, hji], fun hn n v hrr => ?_⟩
      simp only [List.map_cons, List.nodup_cons] at hn
      obtain ⟨a1, a2⟩ := hd hn.2 n v hrr
      refine ⟨by omega, ?_⟩
      rw [show n - k = (n - (k + 1)) + 1 by omega, List.eraseIdx_cons_succ, List.map_cons, a2, h1, h2, List.filter_cons_of_pos (by simpa using fun e => hij e.symm)]
      rfl
theorem look_mp (w : World) (r : Nat) (l : List (Int × Int)) (h : Lm w r l) (i : Int) (ok : Bool) :
    (Instr.lookup 44 (.map (some r)) (.int .i64 i) ok).run Try.prog w = .ok (if ok then .tuple #[.int .i64 ((lk l i).getD 0), .bool (lk l i).isSome] else .int .i64 ((lk l i).getD 0)) w := by
  obtain ⟨es, ck, hb, he⟩ := h
  obtain ⟨q, h1, h2, _⟩ := findNow_lk i es.toList l 0 he
  have hz : ∀ w, (zeroValue 3).run Try.prog w = .ok (.int .i64 0) w := fun _ => by kernel_rfl
  have hc : ∀ b w, (Instr.checkKey b 10000 2 (.int .i64 i)).run Try.prog w = .ok () w := fun _ _ => by kernel_rfl
  have hg : (getObj r).run Try.prog w = .ok (.map es ck) w := by simp [getObj, Sem.run, hb]
  simp only [Instr.lookup, Sem.run_bind, run_underlying underL, Result.andThen_ok, hg, Sem.run_pure, hc, Instr.findKey, run_underlying underI, h1]
  cases q with
  | none =>
    have : lk l i = none := by simpa using h2.symm
    cases ok <;> simp [this, hz]
  | some x =>
    obtain ⟨k, v⟩ := x
    cases hl : lk l i with
    | none => rw [hl] at h2; simp at h2
    | some b => rw [hl] at h2; simp at h2; cases ok <;> simp [h2]
theorem upd_mp (w : World) (r : Nat) (l : List (Int × Int)) (h : Lm w r l) (i : Int) (b : Int) (hn : lk l i = none) :
    ∃ w', (Instr.mapUpdate 44 (.map (some r)) (.int .i64 i) (.int .i64 b)).run Try.prog w = .ok () w' ∧ Lm w' r (l ++ [(i, b)]) ∧ w.grownBy w' (some r) ∧ w'.heap.size = w.heap.size := by
  obtain ⟨es, ck, hb, he⟩ := h
  obtain ⟨q, h1, h2, _⟩ := findNow_lk i es.toList l 0 he
  have hc : ∀ b w, (Instr.checkKey b 10000 2 (.int .i64 i)).run Try.prog w = .ok () w := fun _ _ => by kernel_rfl
  have hq : q = none := by
    rw [hn] at h2
    cases q with
    | none => rfl
    | some x => simp at h2
  subst hq
  have hg : (getObj r).run Try.prog w = .ok (.map es ck) w := by simp [getObj, Sem.run, hb]
  have hs : ∀ o, (setObj r o).run Try.prog w = .ok () { w with heap := w.heap.setIfInBounds r o } := fun o => by simp [setObj, Sem.run, hb]
  simp only [Instr.mapUpdate, Sem.run_bind, run_underlying underL, Result.andThen_ok, hg, Sem.run_pure, hc, Instr.findKey, run_underlying underI, h1]
  refine ⟨_, hs _, ?_, ?_, by simp⟩
  · refine ⟨es.push ⟨.int .i64 i, .int .i64 b, ck⟩, ck + 1, ?_, ?_⟩
    · have hlt : r < w.heap.size := (Array.getElem?_eq_some_iff.1 hb).1
      simp [hlt]
    · simp [he]
  · refine ⟨rfl, rfl, rfl, by simp, fun k hk hne => ?_⟩
    have : r ≠ k := fun e => hne (by rw [e])
    simp [this]
theorem del_mp (w : World) (r : Nat) (l : List (Int × Int)) (h : Lm w r l) (i : Int) (T : TypeId) (hn : (l.map (·.1)).Nodup) :
    ∃ w', (Builtin.delete_ #[44, 2] T #[.map (some r), .int .i64 i]).run Try.prog w = .ok (.tuple #[]) w' ∧ Lm w' r (l.filter fun x => x.1 != i) ∧ w.grownBy w' (some r) ∧ w'.heap.size = w.heap.size := by
  obtain ⟨es, ck, hb, he⟩ := h
  obtain ⟨q, h1, h2, h3⟩ := findNow_lk i es.toList l 0 he
  have hc : ∀ b w, (Instr.checkKey b 10000 2 (.int .i64 i)).run Try.prog w = .ok () w := fun _ _ => by kernel_rfl
  have hg : (getObj r).run Try.prog w = .ok (.map es ck) w := by simp [getObj, Sem.run, hb]
  have hs : ∀ o, (setObj r o).run Try.prog w = .ok () { w with heap := w.heap.setIfInBounds r o } := fun o => by simp [setObj, Sem.run, hb]
  have hlt : r < w.heap.size := (Array.getElem?_eq_some_iff.1 hb).1
  have fr : ∀ o, w.grownBy { w with heap := w.heap.setIfInBounds r o } (some r) := fun o => by
    refine ⟨rfl, rfl, rfl, by simp, fun k hk hne => ?_⟩
    have : r ≠ k := fun e => hne (by rw [e])
    simp [this]
  cases q with
  | none =>
    refine ⟨_, by simp [Builtin.delete_, Sem.run_bind, run_underlying underL, hg, hc, Instr.findKey, run_underlying underI, h1, hs]; rfl, ⟨es, ck, by simp [hlt], ?_⟩, fr _, by simp⟩
    have hl : lk l i = none := by simpa using h2.symm
    rw [he]
    congr 1
    symm
    rw [List.filter_eq_self]
    intro x hx
    simp
    intro e
    unfold lk at hl
    simp at hl
    exact hl x.1 x.2 hx e
  | some x =>
    obtain ⟨n, v⟩ := x
    obtain ⟨_, a2⟩ := h3 hn n v rfl
    refine ⟨_, by simp [Builtin.delete_, Sem.run_bind, run_underlying underL, hg, hc, Instr.findKey, run_underlying underI, h1, hs]; rfl, ⟨es.eraseIdxIfInBounds n, ck, by simp [hlt], ?_⟩, fr _, by simp⟩
    rw [← a2, Nat.sub_zero]
    congr 1
    rw [Array.eraseIdxIfInBounds]
    split
    · simp
    · rename_i hh
      rw [List.eraseIdx_of_length_le (by simpa using hh)]
/-- delete, as one operation. -/
theorem wp_del {o : Oper} {a : Act} {K : Act → World → Prop} {Q : Exit → Act → World → Prop} {w : World} (s x : Operand)
    (ho : o.op = .call { callee := .builtin .delete, args := #[s, x], argTypes := #[44, 2] }) (r : Nat) (i : Int) (l : List (Int × Int)) (hs : a.eval s = .map (some r)) (hx : a.eval x = .int .i64 i) (hp : Lm w r l) (hn : (l.map (·.1)).Nodup)
    (h : ∀ w', Lm w' r (l.filter fun x => x.1 != i) → w.grownBy w' (some r) → w'.heap.size = w.heap.size → K (a.put o.dst (.tuple #[])) w') : Oper.wp Try.prog o a w K Q := by
  obtain ⟨w', h1, h2, h3, h4⟩ := del_mp w r l hp i o.type hn
  unfold Oper.wp
  simp [execOp, ho, resolve, invoke, builtin, hs, hx, h1, Result.andThen]
  exact h w' h2 h3 h4

/-- delete, as an operation in its place. -/
theorem wpList_del {ops : Array Oper} {rest : List Oper} {o : Oper} {a : Act} {Q : Exit → Act → World → Prop} {w : World} (hgd : o.guard = none) (s x : Operand)
    (ho : o.op = .call { callee := .builtin .delete, args := #[s, x], argTypes := #[44, 2] }) (r : Nat) (i : Int) (l : List (Int × Int)) (hs : a.eval s = .map (some r)) (hx : a.eval x = .int .i64 i) (hp : Lm w r l) (hn : (l.map (·.1)).Nodup)
    (h : ∀ w', Lm w' r (l.filter fun x => x.1 != i) → w.grownBy w' (some r) → w'.heap.size = w.heap.size → wpList Try.prog ops Q rest (a.put o.dst (.tuple #[])) w') : wpList Try.prog ops Q (o :: rest) a w :=
  wpList_plain hgd fun _ hK => wp_del s x ho r i l hs hx hp hn fun w' h1 h2 h3 => hK _ _ (h w' h1 h2 h3)

set_option maxRecDepth 100000 in
set_option maxHeartbeats 1000000 in
theorem late_any (a : Ak) (now : Int) (w : World) : Calls Try.prog 19 #[.agg a.cs, .int .i64 now] w fun e w' => e = .returned (.bool (lat now a)) ∧ Below w.heap.size w w' := by
  have b1 := below1 w (.cells a.cs 41)
  unfold lat
  cases h1 : (a.un != 0) with
  | false =>
    go_enter Try.func19, Try.ntmps19
    go_wp2_with fail
    go_ret
    exact ⟨rfl, b1⟩
  | true =>
    go_enter Try.func19, Try.ntmps19
    go_wp2_with fail
    go_ret
    exact ⟨rfl, b1⟩
set_option maxRecDepth 100000 in
set_option maxHeartbeats 4000000 in
theorem expire_any (nx : Int) (sv : Value) (L : List Ak) (now : Int) (w : World) (h : Al w sv L) (hl : L.length ≤ 1024) :
    Calls Try.prog 13 #[.agg #[.int .i64 nx, sv], .int .i64 now] w fun e w' => ∃ s2 s3, e = .returned (.tuple #[.agg #[.int .i64 nx, s2], s3]) ∧ w'.ownsRow w.heap.size 41 3 s2 (exL now L).length (flk Ak.cl (exL now L)) ∧ w'.ownsRow w.heap.size 41 3 s3 (exG now L).length (flk Ak.cl (exG now L)) ∧ Below w.heap.size w w' := by
  obtain ⟨i0, hi0, hz0, hz1, hz2⟩ := info_parts infoAk
  have HA := Lib.hid h
  obtain ⟨ad, cap, rfl, -⟩ := h
  obtain ⟨w1, w2, w3, HW1, HW2, HW3, n2, ow3, z1, z2⟩ := ow_start nx #[.int .i64 nx, .slice ad L.length cap] w
  have c0 := n2.c2.1
  obtain ⟨e0, e1⟩ := ow3.st.c2
  have HO := Lib.hid ow3
  clear n2 ow3
  go_enter Try.func13, Try.ntmps13
  go_wp2_with (first | rw [HW1.out] | rw [HW2.out] | rw [HW3.out])
  go_loopg [7, 16] L.length (fun g s7 s16 wx => ∃ (j : Nat) (sv : Value), j + g = L.length ∧ s16 = .int .i64 j ∧ Ow w.heap.size nx #[.int .i64 nx, .slice ad L.length cap] sv s7 (exL now (L.take j)) (exG now (L.take j)) w wx)
  case atStart => exact ⟨0, _, by omega, rfl, HO.out⟩
  case round =>
    clear c0 e0 e1
    obtain ⟨j, sv, hjg, rfl, hO⟩ := hrel
    have HF := Lib.hid hO
    obtain ⟨sa, sc, rfl⟩ := row_form hO.o0
    obtain ⟨ga, gc, rfl⟩ := row_form hO.o1
    cases gk with
    | zero =>
      obtain rfl : j = L.length := by omega
      rw [List.take_length] at HF hO ⊢
      obtain ⟨q0, q1⟩ := hO.o.c2
      obtain ⟨r0, r1⟩ := hO.r.c2
      have rf := hO.r.f
      clear hO
      go_wp2
      obtain ⟨f1, f2, f3⟩ := HF.out.fin rfl rfl
      exact bodyPost_ret (v := .tuple #[.agg #[.int .i64 nx, .slice sa (exL now L).length sc], .slice ga (exG now L).length gc]) (by simp [results, Try.results13, go_sem, World.cell?_setCell_same, World.cell?_setCell_other, r0, r1]) rfl ⟨_, _, rfl, f1, f2, f3⟩
    | succ g =>
      have hj : j < L.length := by omega
      obtain ⟨a, ha⟩ : ∃ a, L[j]? = some a := ⟨_, List.getElem?_eq_getElem hj⟩
      obtain ⟨b, of, cp, e, hc⟩ := (HA.out.below hO.below).at (by omega)
      simp only [Value.slice.injEq, true_and] at e
      obtain ⟨rfl, rfl⟩ := e
      obtain ⟨c0, c1, c2⟩ := a3 (hc j a ha)
      have hl0 := flt_take (fun a => !lat now a) L j a ha
      have hn0 := flt_len (fun a => !lat now a) L j
      have hl1 := flt_take (lat now) L j a ha
      have hn1 := flt_len (lat now) L j
      have hji : (j : Int) < (L.length : Int) := by omega
      have b1 := below1 wr (.cells a.cs 41)
      have n1 := Bk.new wr a.cs 41
      obtain ⟨w5, hw5⟩ : ∃ w5, w5 = wr.alloc (.cells a.cs 41) := ⟨_, rfl⟩
      rw [← hw5] at b1 n1
      have HW5 := Lib.hid hw5.symm
      obtain ⟨k0, k1, k2⟩ := a3 (b := wr.heap.size) (o := 0) (x := a) (fun q v hv => by rw [Nat.zero_add, n1.c q, ← Array.getElem?_toList]; exact hv)
      simp only [Nat.zero_add] at k1 k2
      have O5 := Lib.hid (hO.step b1)
      have N5 := Lib.hid n1
      have HL0 : Hid (exL now (L.take (j + 1)) = exL now (L.take j) ++ (if (!lat now a) = true then [a] else [])) := Lib.hid hl0
      have HL1 : Hid (exG now (L.take (j + 1)) = exG now (L.take j) ++ (if lat now a = true then [a] else [])) := Lib.hid hl1
      have hsz := O5.out.sz
      have HLA := Lib.hid (late_any a now w5)
      have hm0 : (exL now (L.take j)).length ≤ j := hn0
      have hm1 : (exG now (L.take j)).length ≤ j := hn1
      clear ha hc hl0 hl1 hn0 hn1 n1 hw5 hO HF b1
      cases hla : lat now a with
      | false =>
        rw [hla] at HLA
        go_wp2_with (first | rw [HW5.out])
        refine HLA.out.mono ?_
        rintro e w6 ⟨rfl, b6⟩
        have O6 := Lib.hid (O5.out.step b6)
        obtain ⟨q0, q1⟩ := O6.out.o.c2
        have qf := O6.out.o.f
        have hown0 := O6.out.o0
        have hsz6 := O6.out.sz
        clear c0 c1 c2 k0 k1 k2
        obtain ⟨k0, k1, k2⟩ := a3 (b := wr.heap.size) (o := 0) (x := a) (fun q v hv => by rw [Nat.zero_add, (N5.out.below b6).c q, ← Array.getElem?_toList]; exact hv)
        simp only [Nat.zero_add] at k1 k2
        clear b6
        go_wp2_with (first | (at_builtin; refine wpList_append_near _ rfl _ _ 22 rfl (w.heap.size + 3) 41 i0 _ 3 32 Try.underlying22 hi0 hz0 hz1 hz2 rfl (by decide) _ _ _ rfl (hown0.alloc _) ⟨w6.heap.size, 0, none⟩ 1 1 a.cl rfl rfl (new_cells _ _ _) a.one (by unfold maxLen; omega) (by omega) (by simp; omega) ?_; intro v1 w7 hown7 hgrow7 hnear7; obtain ⟨va, vc, rfl⟩ := row_form hown7; have t0 := ((O6.out.o.below (below1 _ (.cells a.cs 41))).grown hgrow7 (own_ne hown0 (by omega))).c2.1; have t1 := ((O6.out.o.below (below1 _ (.cells a.cs 41))).grown hgrow7 (own_ne hown0 (by omega))).c2.2; have tf := ((O6.out.o.below (below1 _ (.cells a.cs 41))).grown hgrow7 (own_ne hown0 (by omega))).f; clear q0 q1 qf))
        go_roundg g
        case measure => omega
        case rel =>
          refine ⟨j + 1, .slice va ((exL now (L.take j)).length + 1) vc, by omega, by simp, ?_⟩
          rw [HL0.out, HL1.out, hla]
          simp only [Bool.not_false, Bool.false_eq_true, if_false, if_true, List.append_nil]
          refine O6.out.app0 hgrow7 ?_ hnear7 rfl
          rw [List.length_append, flk_app]
          simpa [flk] using hown7
      | true =>
        rw [hla] at HLA
        go_wp2_with (first | rw [HW5.out])
        refine HLA.out.mono ?_
        rintro e w6 ⟨rfl, b6⟩
        have O6 := Lib.hid (O5.out.step b6)
        have hown1 := O6.out.o1
        have hsz6 := O6.out.sz
        clear c0 c1 c2 k0 k1 k2
        obtain ⟨k0, k1, k2⟩ := a3 (b := wr.heap.size) (o := 0) (x := a) (fun q v hv => by rw [Nat.zero_add, (N5.out.below b6).c q, ← Array.getElem?_toList]; exact hv)
        simp only [Nat.zero_add] at k1 k2
        clear b6
        go_wp2_with (first | (at_builtin; refine wpList_append_near _ rfl _ _ 22 rfl (w.heap.size + 3) 41 i0 _ 3 32 Try.underlying22 hi0 hz0 hz1 hz2 rfl (by decide) _ _ _ rfl (hown1.alloc _) ⟨w6.heap.size, 0, none⟩ 1 1 a.cl rfl rfl (new_cells _ _ _) a.one (by unfold maxLen; omega) (by omega) (by simp; omega) ?_; intro v1 w7 hown7 hgrow7 hnear7; obtain ⟨va, vc, rfl⟩ := row_form hown7))
        go_roundg g
        case measure => omega
        case rel =>
          refine ⟨j + 1, .slice sa (exL now (L.take j)).length sc, by omega, by simp, ?_⟩
          rw [HL0.out, HL1.out, hla]
          simp only [Bool.not_true, Bool.false_eq_true, if_false, if_true, List.append_nil]
          refine O6.out.app1 hgrow7 ?_ hnear7 rfl
          rw [List.length_append, flk_app]
          simpa [flk] using hown7

/-- The package's Expire is what the laws ask. -/
theorem ke : KExp := fun nx sv L now w h hf hn => by
  refine (expire_any nx sv L now w h (fitS_iff hf).2.2.1).mono ?_
  rintro e w' ⟨s2, s3, rfl, o2, o3, b⟩
  exact ⟨s2, s3, rfl, own_af o2, own_rk Ak.len o3, b⟩
end Go.Proofs.Ytgghppojjhnbeaa
