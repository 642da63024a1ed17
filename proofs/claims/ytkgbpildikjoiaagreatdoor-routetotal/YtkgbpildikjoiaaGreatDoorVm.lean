/- Rows of routes that grow, rows of bools, and what RouteTotal says of lists; no condition but those that each theorem names. -/
import Derived.Test.YtkgbpildikjoiaaGreatDoorVi
import Derived.Deep.AppendLies
import Derived.Deep.AppendSrc
import Derived.Deep.Upon
namespace Go.Proofs.YtkgbpildikjoiaaGreatDoor
open Go.RowKit Tp

abbrev Ro.cl (x : Ro) : List Value := [.string x.f, .int .i64 x.o, .int .i64 x.a, .slice x.wd x.wl x.wc, .int .i64 x.h, .bool x.e]
def fl6 (l : List Ro) : List Value := l.flatMap Ro.cl
theorem fl6_len (l : List Ro) : (fl6 l).length = l.length * 6 := by
  induction l with
  | nil => rfl
  | cons x r ih => simp only [fl6, List.flatMap_cons, List.length_append, List.length_cons] at ih ⊢; simp [ih]; omega
theorem fl6_app (l m : List Ro) : fl6 (l ++ m) = fl6 l ++ fl6 m := List.flatMap_append
theorem fl6_at : ∀ (l : List Ro) (j q : Nat) (x : Ro), l[j]? = some x → q < 6 → (fl6 l)[j * 6 + q]? = x.cl[q]?
  | [], j, q, x, h, _ => by simp at h
  | y :: r, 0, q, x, h, hq => by
    simp only [List.getElem?_cons_zero, Option.some.injEq] at h
    subst h
    show (y.cl ++ fl6 r)[0 * 6 + q]? = _
    rw [Nat.zero_mul, Nat.zero_add, List.getElem?_append_left (by simpa using hq)]
  | y :: r, j + 1, q, x, h, hq => by
    show (y.cl ++ fl6 r)[(j + 1) * 6 + q]? = _
    rw [List.getElem?_append_right (by simp; omega), show (j + 1) * 6 + q - y.cl.length = j * 6 + q by simp; omega]
    exact fl6_at r j q x (by simpa using h) hq
theorem fl6_back : ∀ (l : List Ro) (j : Nat) (u : Value), (fl6 l)[j]? = some u → ∃ x, l[j / 6]? = some x ∧ x.cl[j % 6]? = some u := fun l j u h => by
  have hl := (List.getElem?_eq_some_iff.1 h).1
  rw [fl6_len] at hl
  obtain ⟨x, hx⟩ : ∃ x, l[j / 6]? = some x := ⟨_, List.getElem?_eq_getElem (by omega)⟩
  refine ⟨x, hx, ?_⟩
  rw [← fl6_at l (j / 6) (j % 6) x hx (by omega), show j / 6 * 6 + j % 6 = j by omega]
  exact h
theorem add6 (b o n : Nat) : (⟨b, o, none⟩ : Addr).add n = ⟨b, o + n, none⟩ := by unfold Addr.add; split <;> simp_all
theorem C6.at {w : World} {b o : Nat} {x : Ro} (h : C6 w b o x) (q : Nat) (hq : q < 6) : w.cell? ⟨b, o + q, none⟩ = x.cl[q]? := by
  obtain ⟨h0, h1, h2, h3, h4, h5⟩ := h
  match q, hq with
  | 0, _ => exact h0
  | 1, _ => exact h1
  | 2, _ => exact h2
  | 3, _ => exact h3
  | 4, _ => exact h4
  | 5, _ => exact h5
theorem fl6_one (l : List Ro) : ∀ u ∈ fl6 l, u.oneCell' = true := fun u hu => by
  obtain ⟨x, -, hx⟩ := List.mem_flatMap.1 hu
  simp at hx
  rcases hx with rfl | rfl | rfl | rfl | rfl | rfl <;> rfl
theorem infoR : (Tryz.prog.info? 45).map (fun i => (i.zero, i.size, i.bytes)) = some (some (.agg #[.string ⟨#[]⟩, .int .i64 0, .int .i64 0, .slice none 0 0, .int .i64 0, .bool false]), 6, 72) := by kernel_rfl
theorem infoB : (Tryz.prog.info? 4).map (fun i => (i.zero, i.size, i.bytes)) = some (some (.bool false), 1, 1) := by kernel_rfl

theorem below_none {w w' : World} {B : Nat} (h : w.grownBy w' none) (hB : B ≤ w.heap.size) : Below B w w' := ⟨h.os, h.tape, h.output, h.size, fun k hk => h.block k (by omega) (by simp)⟩
theorem below_own4 {a w w' : World} {B n : Nat} {v : Value} {xs : List Value} (h : Below a.heap.size a w) (hg : w.grownBy w' v.ownBlock) (ho : w.ownsRow B 45 6 v n xs) (hB : a.heap.size ≤ B) : Below a.heap.size a w' :=
  ⟨hg.os.trans h.os, hg.tape.trans h.tape, hg.output.trans h.output, Nat.le_trans h.size hg.size, fun k hk => (hg.block k (Nat.lt_of_lt_of_le hk h.size) (fun e => by have := (ho.lt k e.symm).1; omega)).trans (h.block k hk)⟩

/-- A row of routes laid behind a row of routes that grows. -/
theorem wpList_rapp {ops : Array Oper} {rest : List Oper} {o : Oper} {a : Act} {Q : Exit → Act → World → Prop} {w : World} (hgd : o.guard = none) (s x : Operand)
    (ho : o.op = .call { callee := .builtin .append, args := #[s, x], argTypes := #[22, 22] })
    (B : Nat) (l : List Ro) (sl : Value) (hs : a.eval s = sl) (hp : w.ownsRow B 45 6 sl l.length (fl6 l)) (hB : B ≤ w.heap.size)
    (ad2 : Option Addr) (c2 : Nat) (m : List Ro) (hx : a.eval x = .slice ad2 m.length c2) (hm : Rs w ad2 m) (hlen : l.length + m.length ≤ 1000000)
    (h : ∀ sl' w', w'.ownsRow B 45 6 sl' (l ++ m).length (fl6 (l ++ m)) → w.grownBy w' sl.ownBlock → wpList Tryz.prog ops Q rest (a.put o.dst sl') w') : wpList Tryz.prog ops Q (o :: rest) a w := by
  obtain ⟨i0, hi0, hz0, hz1, hz2⟩ := info_parts infoR
  by_cases hm0 : m = []
  · subst hm0
    refine wpList_plain hgd fun K hK' => ?_
    obtain ⟨sa, sc, rfl⟩ := row_form hp
    have hle : l.length ≤ sc := by
      obtain ⟨-, ⟨e, e2⟩ | ⟨g, cp, cur, e, -, -, h1, -⟩⟩ := hp
      · simp only [Value.slice.injEq] at e; omega
      · simp only [Value.slice.injEq] at e; omega
    have hsrc : Src Tryz.prog i0.size 22 (.slice ad2 0 c2) 0 [] w := by
      cases ad2 with
      | none => exact Src.ofNil _ Tryz.underlying22 c2
      | some a2 => exact Src.ofSlice _ Tryz.underlying22 a2 0 c2 [] (by simp) (fun j u hu => by simp at hu) (fun u hu => by simp at hu)
    have hrun := run_append_nothing (P := Tryz.prog) w 22 22 o.type 45 i0 Tryz.underlying22 hi0 sa l.length sc hle (.slice ad2 0 c2) hsrc
    unfold Oper.wp
    simp only [List.length_nil] at hx
    simp [execOp, ho, resolve, invoke, builtin, hs, hx, hrun, Result.andThen]
    exact hK' _ _ (by simpa using h (.slice sa l.length sc) w (by simpa using hp) ⟨rfl, rfl, rfl, Nat.le_refl _, fun _ _ _ => rfl⟩)
  · rcases hm with hm | ⟨b, of, rfl, hm⟩
    · exact absurd hm hm0
    have hpos : 0 < m.length := List.length_pos_iff.2 hm0
    refine wpList_append_lies _ hgd s x 22 ho B 45 i0 _ 6 72 Tryz.underlying22 hi0 hz0 hz1 hz2 rfl (by decide) sl l.length (fl6 l) hs hp ⟨b, of, none⟩ m.length c2 (fl6 m) hx (fl6_len m) (fun j u hu => ?_) (fl6_one m) hpos (by unfold maxLen; omega) (by omega) hB _ rfl ?_
    · obtain ⟨y, hy, hq⟩ := fl6_back m j u hu
      have := (hm (j / 6) y hy).1.at (j % 6) (by omega)
      rw [add6, ← hq, ← this, show of + j / 6 * 6 + j % 6 = of + j by omega]
    · intro g cp w' own gr at' lt'
      refine h _ w' ?_ gr
      rw [List.length_append, fl6_app]
      exact own
/-- Such a row is a slice of routes. -/
theorem own_rs {w : World} {B : Nat} {sl : Value} {l : List Ro} (h : w.ownsRow B 45 6 sl l.length (fl6 l)) (hr : ∀ x ∈ l, RepW w x.n x.wv x.t ∧ x.f.size ≤ maxLen) : ∃ ad cap, sl = .slice ad l.length cap ∧ Rs w ad l := by
  obtain ⟨hl, ⟨rfl, h0⟩ | ⟨g, cap, cur, rfl, hb, hh, hc, hm, hs, ht⟩⟩ := h
  · obtain rfl : l = [] := List.eq_nil_of_length_eq_zero h0
    exact ⟨none, 0, rfl, .inl rfl⟩
  · refine ⟨_, cap, rfl, .inr ⟨g, 0, rfl, fun j x hj => ?_⟩⟩
    have key : ∀ q, q < 6 → w.cell? ⟨g, 0 + j * 6 + q, none⟩ = x.cl[q]? := fun q hq => by
      have h9 := fl6_at l j q x hj hq
      rw [← ht, List.getElem?_take] at h9
      have hjl := (List.getElem?_eq_some_iff.1 hj).1
      rw [if_pos (by omega), Array.getElem?_toList] at h9
      rw [Nat.zero_add]
      simp only [World.cell?, hh]
      exact h9
    exact ⟨⟨key 0 (by decide), key 1 (by decide), key 2 (by decide), key 3 (by decide), key 4 (by decide), key 5 (by decide)⟩, hr x (List.mem_of_getElem? hj)⟩

/-- A row of bools in a block of its own. -/
def Bf (w : World) (G n : Nat) (f : Nat → Bool) : Prop := Bk w G ((List.range n).map fun j => Value.bool (f j)).toArray 4
theorem Bf.c {w : World} {G n : Nat} {f : Nat → Bool} (h : Bf w G n f) (j : Nat) (hj : j < n) : w.cell? ⟨G, j, none⟩ = some (.bool (f j)) := by
  rw [Bk.c h]
  simp [hj]
theorem Bf.below {w w' : World} {G n : Nat} {f : Nat → Bool} (h : Bf w G n f) (hb : Below w.heap.size w w') : Bf w' G n f := Bk.below h hb
theorem Bf.set {w : World} {G n : Nat} {f f' : Nat → Bool} (h : Bf w G n f) (i : Nat) (hf : ∀ j, j < n → f' j = (f j || decide (j = i))) : Bf (w.setCell ⟨G, i, none⟩ (.bool true)) G n f' := by
  have h1 := Bk.set h i (.bool true)
  have e : ((List.range n).map fun j => Value.bool (f j)).toArray.setIfInBounds i (.bool true) = ((List.range n).map fun j => Value.bool (f' j)).toArray := by
    apply Array.ext_getElem?
    intro j
    simp only [List.setIfInBounds_toArray, List.getElem?_toArray, List.getElem?_set, List.length_map, List.length_range, List.getElem?_map]
    by_cases hj : j < n
    · rw [List.getElem?_range hj]
      by_cases hi : i = j
      · subst hi; simp [hj, hf i hj]
      · have hij : ¬ j = i := fun e => hi e.symm
        simp [hi, hf j hj, hij]
    · rw [List.getElem?_eq_none (by simpa using hj)]
      simp
      intro e
      omega
  unfold Bf
  rw [← e]
  exact h1
theorem bf_made {w' : World} {B n G : Nat} (h : w'.ownsRow B 4 1 (.slice (some ⟨G, 0, none⟩) n n) n (madeCells #[Value.bool false] (n * 1)).toList) : Bf w' G n fun _ => false := by
  obtain ⟨hl, ⟨e, -⟩ | ⟨g, cap, cur, e, hb, hh, hc, hm, hs, ht⟩⟩ := h
  · simp at e
  · simp only [Value.slice.injEq, Option.some.injEq, Addr.mk.injEq] at e
    obtain ⟨⟨rfl, -⟩, -, rfl⟩ := e
    unfold Bf Bk
    rw [hh]
    have e2 : cur = ((List.range n).map fun _ => Value.bool false).toArray := by
      have e3 : cur.toList = (madeCells #[Value.bool false] (n * 1)).toList := by rw [← ht, List.take_of_length_le (by simp; omega)]
      have e4 : (madeCells #[Value.bool false] (n * 1)).toList = (List.range n).map fun _ => Value.bool false := by
        apply List.ext_getElem?
        intro j
        rw [Nat.mul_one]
        by_cases hj : j < n
        · simp [madeCells, hj, Nat.mod_one]
        · simp [madeCells, hj]
      rw [← e4, ← e3]
    rw [e2]

theorem fnd_pw (p : Ro → Bool) : ∀ (l : List Ro) (i : Nat), (fnd p i l).Pairwise (· < ·)
  | [], _ => List.Pairwise.nil
  | x :: r, i => by
    simp only [fnd]
    split
    · refine List.Pairwise.cons (fun q hq => ?_) (fnd_pw p r (i + 1))
      have := ((fnd_in p r (i + 1) q).1 hq).1
      omega
    · exact fnd_pw p r (i + 1)
theorem fn_in (r : Bool) (tp : Bs) (k : Int) (L : List Ro) (j : Nat) : j ∈ fn r tp k L ↔ ∃ x, L[j]? = some x ∧ x.e = r ∧ x.ag tp k = true := by
  unfold fn
  rw [fnd_in]
  constructor
  · rintro ⟨-, x, hx, hp⟩
    simp only [Bool.and_eq_true, beq_iff_eq] at hp
    exact ⟨x, by simpa using hx, hp⟩
  · rintro ⟨x, hx, h1, h2⟩
    exact ⟨Nat.zero_le _, x, by simpa using hx, by simp [h1, h2]⟩
theorem tk_nodup (tp : Bs) (k : Int) (L : List Ro) (q i : Nat) (h : (tkR tp k L)[q]? = some i) : i ∉ (tkR tp k L).take q := by
  have pw : (tkR tp k L).Pairwise (· < ·) := by unfold tkR; split <;> exact fnd_pw _ _ _
  intro hm
  obtain ⟨c, hc, e⟩ := List.mem_iff_getElem.1 hm
  rw [List.length_take] at hc
  rw [List.getElem_take] at e
  obtain ⟨hq, e2⟩ := List.getElem?_eq_some_iff.1 h
  have := List.pairwise_iff_getElem.1 pw c q (by omega) hq (by omega)
  omega
theorem tk_in (tp : Bs) (k : Int) (L : List Ro) (j : Nat) (x : Ro) (hx : L[j]? = some x) (h : j ∈ tkR tp k L) : x.ag tp k = true ∧ x.e = tkE tp k L := by
  unfold tkR at h
  split at h
  · next hf =>
    have h1 := h
    rw [fn_in] at h
    obtain ⟨y, hy, he, ha⟩ := h
    rw [hx] at hy
    obtain rfl := Option.some.inj hy
    refine ⟨ha, ?_⟩
    have hne : ¬ fn true tp k L = [] := fun e => by rw [e] at h1; simp at h1
    simp [tkE, hf, hne, he]
  · next hf =>
    rw [fn_in] at h
    obtain ⟨y, hy, he, ha⟩ := h
    rw [hx] at hy
    obtain rfl := Option.some.inj hy
    exact ⟨ha, by simp [tkE, hf, he]⟩
theorem tk_out (tp : Bs) (k : Int) (L : List Ro) (j : Nat) (x : Ro) (hx : L[j]? = some x) (he : x.e = false) (ha : x.ag tp k = true) : j ∈ tkR tp k L := by
  have h := (fn_in false tp k L j).2 ⟨x, hx, he, ha⟩
  have hne : ¬ fn false tp k L = [] := fun e => by rw [e] at h; simp at h
  unfold tkR
  rw [if_neg hne]
  exact h
theorem tk_more (tp : Bs) (k : Int) (L M : List Ro) (i : Nat) (h : i ∈ tkR tp k L) (he : tkE tp k L = false) : i ∈ tkR tp k (L ++ M) := by
  obtain ⟨x, hx⟩ := tk_lt tp k L i h
  have h1 := tk_in tp k L i x hx h
  exact tk_out tp k (L ++ M) i x (by rw [List.getElem?_append_left (List.getElem?_eq_some_iff.1 hx).1]; exact hx) (h1.2.trans he) h1.1
theorem pl_step (tp : Bs) (k : Int) (A : List Ro) (j : Nat) (x : Ro) (hx : A[j]? = some x) : (!decide (fn false tp k (A.take (j + 1)) = [])) = ((!decide (fn false tp k (A.take j) = [])) || (x.ag tp k && !x.e)) := by
  rw [fn_take false tp k A j x hx]
  cases x.e <;> cases x.ag tp k <;> simp
theorem pl_end (tp : Bs) (k : Int) (A : List Ro) : ((!decide (fn false tp k A = [])) && tkE tp k A) = false := by
  unfold tkE
  by_cases h : fn false tp k A = [] <;> simp [h]
end Go.Proofs.YtkgbpildikjoiaaGreatDoor
