/- A row of numbers copied, and one laid behind another; the conditions: the row in memory, of a size that can be. -/
import Derived.Test.YtdnmbalmejhbcaaDb
import Derived.OwnWalk
import Derived.Lib.AppendZeros
namespace Go.Proofs.Ytdnmbalmejhbcaa
open Go.RowKit Go.Shelf

theorem info_parts {P : Program} {T : TypeId} {z : Option Value} {s y : Nat} (h : (P.info? T).map (fun i => (i.zero, i.size, i.bytes)) = some (z, s, y)) : ∃ i, P.info? T = some i ∧ i.zero = z ∧ i.size = s ∧ i.bytes = y := by
  cases hi : P.info? T with
  | none => rw [hi] at h; simp at h
  | some i => rw [hi] at h; simp at h; exact ⟨i, rfl, h.1, h.2.1, h.2.2⟩
theorem infoI : (Try.prog.info? 2).map (fun i => (i.zero, i.size, i.bytes)) = some (some (.int .i64 0), 1, 8) := by kernel_rfl
/-- A row of numbers that one's own call made. -/
def Ow (w : World) (base : Nat) (ad : Option Addr) (cap : Nat) (l : List Int) : Prop := w.ownsRow base 2 1 (.slice ad l.length cap) l.length (l.map (Value.int .i64))
theorem Ow.nil (w : World) (base : Nat) : Ow w base none 0 [] := World.ownsRow_nil _ _ _ _
theorem Ow.sl {w : World} {base : Nat} {ad : Option Addr} {cap : Nat} {l : List Int} (h : Ow w base ad cap l) : Sl w ad cap l := by
  rcases h.2 with ⟨hv, hn⟩ | ⟨g, c, cur, hv, hb, hg, hnc, hm, hcs, htk⟩
  · simp only [Value.slice.injEq] at hv
    obtain ⟨rfl, _, rfl⟩ := hv
    exact ⟨by omega, fun _ => rfl, .inl (List.eq_nil_of_length_eq_zero hn)⟩
  · simp only [Value.slice.injEq, true_and] at hv
    obtain ⟨rfl, rfl⟩ := hv
    refine ⟨hnc, (fun e => nomatch e), .inr ⟨g, 0, rfl, (Array.getElem?_eq_some_iff.1 hg).1, fun j hj => ?_⟩⟩
    have h1 : (cur.toList.take (l.length * 1))[j]? = (l.map (Value.int .i64))[j]? := by rw [htk]
    rw [List.getElem?_take, if_pos (by omega), List.getElem?_map, List.getElem?_eq_getElem hj] at h1
    simp only [Option.map_some, Array.getElem?_toList] at h1
    simp [World.cell?, hg, h1]
theorem Ow.keep {w w' : World} {base : Nat} {ad : Option Addr} {cap : Nat} {l : List Int} (h : Ow w base ad cap l) (hk : ∀ g, base ≤ g → g < w.heap.size → w'.heap[g]? = w.heap[g]?) : Ow w' base ad cap l := by
  refine ⟨h.1, ?_⟩
  rcases h.2 with hn | ⟨g, cap, cur, hv, hb, hg, rest⟩
  · exact .inl hn
  · exact .inr ⟨g, cap, cur, hv, hb, (hk g hb (Array.getElem?_eq_some_iff.1 hg).1).trans hg, rest⟩
theorem Ow.step {w w' : World} {base : Nat} {ad : Option Addr} {cap : Nat} {l : List Int} (h : Ow w base ad cap l) (hb : Below w.heap.size w w') : Ow w' base ad cap l := h.keep fun g _ hg => hb.block g hg
theorem Ow.mono {w : World} {base b2 : Nat} {ad : Option Addr} {cap : Nat} {l : List Int} (h : Ow w base ad cap l) (hb : b2 ≤ base) : Ow w b2 ad cap l := by
  refine ⟨h.1, ?_⟩
  rcases h.2 with hn | ⟨g, cap, cur, hv, hb', rest⟩
  · exact .inl hn
  · exact .inr ⟨g, cap, cur, hv, by omega, rest⟩
theorem below_own {W w4 w : World} {base : Nat} {e : TypeId} {s n : Nat} {v : Value} {xs : List Value} (ho : W.ownsRow base e s v n xs) (hg : W.grownBy w4 v.ownBlock) (hB : w.heap.size ≤ base) (h : Below w.heap.size w W) : Below w.heap.size w w4 :=
  h.grown hg h.size (fun k e => by have := (ho.lt k e).1; omega)
theorem row_form {w : World} {base : Nat} {e : TypeId} {s n : Nat} {v : Value} {xs : List Value} (h : w.ownsRow base e s v n xs) : ∃ ad c, v = .slice ad n c := by
  rcases h.2 with ⟨hv, rfl⟩ | ⟨g, cap, cur, hv, _⟩
  · exact ⟨none, 0, hv⟩
  · exact ⟨_, cap, hv⟩
/-- The cells that are appended. -/
theorem Sl.news {w : World} {a : Addr} {cap : Nat} {l : List Int} (h : Sl w (some a) cap l) : ∀ j u, (l.map (Value.int .i64))[j]? = some u → w.cell? (a.add j) = some u := by
  intro j u hu
  rw [List.getElem?_map] at hu
  by_cases hj : j < l.length
  · rw [List.getElem?_eq_getElem hj] at hu
    simp at hu
    obtain ⟨b, o, e, _, h2⟩ := h.cell (by omega)
    cases e
    have hadd : (⟨b, o, none⟩ : Addr).add j = ⟨b, o + j, none⟩ := by unfold Addr.add; split <;> simp_all
    rw [hadd, h2 j hj, hu]
  · rw [List.getElem?_eq_none (by omega)] at hu; simp at hu
theorem one_cells (l : List Int) : ∀ u ∈ l.map (Value.int .i64), u.oneCell' = true := by
  intro u hu
  simp at hu
  obtain ⟨x, _, rfl⟩ := hu
  rfl

/-- One row behind another. -/
theorem wpList_app {ops : Array Oper} {rest : List Oper} {o : Oper} {a : Act} {Q : Exit → Act → World → Prop} {w : World} (hgd : o.guard = none) (s x : Operand)
    (ho : o.op = .call { callee := .builtin .append, args := #[s, x], argTypes := #[22, 22] })
    (base : Nat) (ad : Option Addr) (cap : Nat) (xs : List Int) (hs : a.eval s = .slice ad xs.length cap) (hown : Ow w base ad cap xs)
    (ad2 : Option Addr) (c2 : Nat) (ys : List Int) (hx : a.eval x = .slice ad2 ys.length c2) (hsl : Sl w ad2 c2 ys) (hlen : xs.length + ys.length ≤ 1000000) (hbase : base ≤ w.heap.size)
    (h : ∀ ad' cap' w', Ow w' base ad' cap' (xs ++ ys) → Below base w w' → wpList Try.prog ops Q rest (a.put o.dst (.slice ad' (xs ++ ys).length cap')) w') : wpList Try.prog ops Q (o :: rest) a w := by
  obtain ⟨i0, hi0, hz0, hz1, hz2⟩ := info_parts infoI
  cases ad2 with
  | none =>
    have hc := hsl.no rfl
    have hl0 := hsl.le
    obtain rfl : ys = [] := List.eq_nil_of_length_eq_zero (by omega)
    subst hc
    refine wpList_plain hgd fun K hK' => ?_
    have hrun := run_append_owned_none (P := Try.prog) w base 22 o.type 2 i0 1 Try.underlying22 hi0 _ _ _ hown
    unfold Oper.wp
    simp only [List.length_nil] at hx
    simp [execOp, ho, resolve, invoke, builtin, hs, hx, hrun, Result.andThen]
    exact hK' _ _ (by simpa using h ad cap w (by simpa using hown) (Below.refl _ _))
  | some a2 =>
    refine wpList_append_own_at _ hgd s x 22 ho base 2 i0 (.int .i64 0) 1 8 Try.underlying22 hi0 hz0 hz1 hz2 rfl (by decide) _ xs.length (xs.map (Value.int .i64)) hs hown a2 ys.length c2 (ys.map (Value.int .i64)) hx (by simp) hsl.news (one_cells ys) (by unfold maxLen; omega) (by omega) hbase ?_
    intro v' w' ho' hg' _ _
    obtain ⟨ad', cap', rfl⟩ := row_form ho'
    have h1 : Ow w' base ad' cap' (xs ++ ys) := by unfold Ow; rw [List.length_append, List.map_append]; exact ho'
    have h2 : Below base w w' := (Below.refl base w).grown hg' hbase (fun k e => (hown.lt k e).1)
    have := h ad' cap' w' h1 h2
    rwa [List.length_append] at this
theorem Ow.empty (w : World) : Ow (w.alloc (.cells #[] 2)) w.heap.size (some ⟨w.heap.size, 0, none⟩) 0 [] :=
  ⟨rfl, .inr ⟨w.heap.size, 0, #[], rfl, Nat.le_refl _, heap_alloc_new w _, Nat.le_refl _, by decide, rfl, rfl⟩⟩

set_option maxRecDepth 100000 in
set_option maxHeartbeats 1000000 in
theorem clone_any (ad : Option Addr) (l : List Int) (cap : Nat) (w : World) (hl : l.length ≤ 100000) (hI : Sl w ad cap l) :
    Calls Try.prog 13 #[.slice ad l.length cap] w fun e w' => ∃ ad' cap', e = .returned (.slice ad' l.length cap') ∧ Ow w' w.heap.size ad' cap' l ∧ Below w.heap.size w w' := by
  have HI := Lib.hid hI
  clear hI
  obtain ⟨i0, hi0, hz0, hz1, hz2⟩ := info_parts infoI
  have q22 : ∀ (w : World) (a : Option Addr) (n c n' c' : Nat), (binOp .eql 22 (.slice a n c) (.slice none n' c')).run Try.prog w = .ok (.bool a.isNone) w := fun w a n c n' c' => Lib.run_eql_slice_nil w _ _ a n c n' c' Try.underlying22
  cases ad with
  | none =>
    have hc := HI.out.no rfl
    have hl0 := HI.out.le
    obtain rfl : l = [] := List.eq_nil_of_length_eq_zero (by omega)
    subst hc
    go_enter Try.func13, Try.ntmps13
    go_wp2
    go_ret
    exact ⟨none, 0, rfl, Ow.nil _ _, Below.refl _ _⟩
  | some a =>
    go_enter Try.func13, Try.ntmps13
    go_wp2_with (at_builtin; refine wpList_app rfl _ _ rfl w.heap.size _ _ [] rfl (Ow.empty w) (some a) cap l rfl (HI.out.step (below1 w _)) (by simp; omega) (by simp) ?_; intro ad2 c2 w2 o2 b2)
    go_ret
    exact ⟨ad2, c2, rfl, o2, (below1 w _).trans b2⟩
end Go.Proofs.Ytdnmbalmejhbcaa
