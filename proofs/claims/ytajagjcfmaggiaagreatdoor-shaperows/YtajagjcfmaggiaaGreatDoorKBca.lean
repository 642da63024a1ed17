/- The law ShapeRows; the conditions: the value in memory, its numbers within 64 bits, the rows of numbers in memory, the tables as they are laid. -/
import Derived.OwnWalk
import Derived.Deep.AppendLies
import Derived.Lib.AppendZeros
import Derived.Test.YtajagjcfmaggiaaGreatDoorKBbi
import Derived.ProofKit
import Derived.OpenShut
import Derived.Test.YtajagjcfmaggiaaGreatDoorKBac
import Derived.Test.YtajagjcfmaggiaaGreatDoorKBad
import Derived.Stop.Joined
import Derived.Lib.SmallJoins
import Derived.Carry
namespace Go.Proofs.YtajagjcfmaggiaaGreatDoor
open Go.RowKit Go.Shelf
/-- Numbers in memory: a slice's. -/
structure Sl (w : World) (ad : Option Addr) (cap : Nat) (l : List Int) : Prop where
  le : l.length ≤ cap
  no : ad = none → cap = 0
  at' : l = [] ∨ ∃ b o, ad = some ⟨b, o, none⟩ ∧ b < w.heap.size ∧ ∀ j (h : j < l.length), w.cell? ⟨b, o + j, none⟩ = some (.int .i64 l[j])
theorem Sl.below {w w' : World} {ad : Option Addr} {cap n : Nat} {l : List Int} (h : Sl w ad cap l) (hb : Below n w w') (hn : w.heap.size ≤ n) : Sl w' ad cap l := by
  refine ⟨h.le, h.no, ?_⟩
  rcases h.at' with h | ⟨b, o, e, h1, h2⟩
  · exact .inl h
  · exact .inr ⟨b, o, e, Nat.lt_of_lt_of_le h1 hb.size, fun j hj => (World.cell?_of_block (hb.block b (by omega))).trans (h2 j hj)⟩
theorem Sl.step {w w' : World} {ad : Option Addr} {cap : Nat} {l : List Int} (h : Sl w ad cap l) (hb : Below w.heap.size w w') : Sl w' ad cap l := h.below hb (Nat.le_refl _)
theorem Sl.cell {w : World} {ad : Option Addr} {cap : Nat} {l : List Int} (h : Sl w ad cap l) (hp : 0 < l.length) : ∃ b o, ad = some ⟨b, o, none⟩ ∧ b < w.heap.size ∧ ∀ j (h : j < l.length), w.cell? ⟨b, o + j, none⟩ = some (.int .i64 l[j]) := by
  rcases h.at' with h | h
  · simp [h] at hp
  · exact h

theorem info_parts {P : Program} {T : TypeId} {z : Option Value} {s y : Nat} (h : (P.info? T).map (fun i => (i.zero, i.size, i.bytes)) = some (z, s, y)) : ∃ i, P.info? T = some i ∧ i.zero = z ∧ i.size = s ∧ i.bytes = y := by
  cases hi : P.info? T with
  | none => rw [hi] at h; simp at h
  | some i => rw [hi] at h; simp at h; exact ⟨i, rfl, h.1, h.2.1, h.2.2⟩
theorem infoI : (Tryz.prog.info? 3).map (fun i => (i.zero, i.size, i.bytes)) = some (some (.int .i64 0), 1, 8) := by kernel_rfl
/-- A row of numbers that one's own call made. -/
def Ow (w : World) (base : Nat) (ad : Option Addr) (cap : Nat) (l : List Int) : Prop := w.ownsRow base 3 1 (.slice ad l.length cap) l.length (l.map (Value.int .i64))
theorem Ow.nil (w : World) (base : Nat) : Ow w base none 0 [] := World.ownsRow_nil _ _ _ _
theorem Ow.sl {w : World} {base : Nat} {ad : Option Addr} {cap : Nat} {l : List Int} (h : Ow w base ad cap l) : Sl w ad cap l := by
  rcases h.2 with ⟨hv, hn⟩ | ⟨g, c, cur, hv, hb, hg, hnc, hm, hcs, htk⟩
  · simp only [Value.slice.injEq] at hv
    obtain ⟨rfl, _, rfl⟩ := hv
    exact ⟨by omega, fun _ => rfl, .inl (List.eq_nil_of_length_eq_zero hn)⟩
  · simp only [Value.slice.injEq, true_and] at hv
    obtain ⟨rfl, rfl⟩ := hv
    refine ⟨hnc, (fun e => nomatch e), .inr ⟨g, 0, rfl, (Array.getElem?_eq_some_iff.1 hg).1, fun j hj => ?_⟩⟩
    have h1 : (cur.toList.take (l.length * 1))[j]? = (l.map (Value.int .i64))[j]? := by rw [htk]
    rw [List.getElem?_take, if_pos (by omega), List.getElem?_map, List.getElem?_eq_getElem hj] at h1
    simp only [Option.map_some, Array.getElem?_toList] at h1
    simp [World.cell?, hg, h1]
theorem Ow.keep {w w' : World} {base : Nat} {ad : Option Addr} {cap : Nat} {l : List Int} (h : Ow w base ad cap l) (hk : ∀ g, base ≤ g → g < w.heap.size → w'.heap[g]? = w.heap[g]?) : Ow w' base ad cap l := by
  refine ⟨h.1, ?_⟩
  rcases h.2 with hn | ⟨g, cap, cur, hv, hb, hg, rest⟩
  · exact .inl hn
  · exact .inr ⟨g, cap, cur, hv, hb, (hk g hb (Array.getElem?_eq_some_iff.1 hg).1).trans hg, rest⟩
theorem Ow.step {w w' : World} {base : Nat} {ad : Option Addr} {cap : Nat} {l : List Int} (h : Ow w base ad cap l) (hb : Below w.heap.size w w') : Ow w' base ad cap l := h.keep fun g _ hg => hb.block g hg
theorem Ow.mono {w : World} {base b2 : Nat} {ad : Option Addr} {cap : Nat} {l : List Int} (h : Ow w base ad cap l) (hb : b2 ≤ base) : Ow w b2 ad cap l := by
  refine ⟨h.1, ?_⟩
  rcases h.2 with hn | ⟨g, cap, cur, hv, hb', rest⟩
  · exact .inl hn
  · exact .inr ⟨g, cap, cur, hv, by omega, rest⟩
theorem row_form {w : World} {base : Nat} {e : TypeId} {s n : Nat} {v : Value} {xs : List Value} (h : w.ownsRow base e s v n xs) : ∃ ad c, v = .slice ad n c := by
  rcases h.2 with ⟨hv, rfl⟩ | ⟨g, cap, cur, hv, _⟩
  · exact ⟨none, 0, hv⟩
  · exact ⟨_, cap, hv⟩
/-- The cells that are appended. -/
theorem Sl.news {w : World} {a : Addr} {cap : Nat} {l : List Int} (h : Sl w (some a) cap l) : ∀ j u, (l.map (Value.int .i64))[j]? = some u → w.cell? (a.add j) = some u := by
  intro j u hu
  rw [List.getElem?_map] at hu
  by_cases hj : j < l.length
  · rw [List.getElem?_eq_getElem hj] at hu
    simp at hu
    obtain ⟨b, o, e, _, h2⟩ := h.cell (by omega)
    cases e
    have hadd : (⟨b, o, none⟩ : Addr).add j = ⟨b, o + j, none⟩ := by unfold Addr.add; split <;> simp_all
    rw [hadd, h2 j hj, hu]
  · rw [List.getElem?_eq_none (by omega)] at hu; simp at hu
theorem one_cells (l : List Int) : ∀ u ∈ l.map (Value.int .i64), u.oneCell' = true := by
  intro u hu
  simp at hu
  obtain ⟨x, _, rfl⟩ := hu
  rfl

/-- One row behind another. -/
theorem wpList_app {ops : Array Oper} {rest : List Oper} {o : Oper} {a : Act} {Q : Exit → Act → World → Prop} {w : World} (hgd : o.guard = none) (s x : Operand)
    (ho : o.op = .call { callee := .builtin .append, args := #[s, x], argTypes := #[43, 43] })
    (base : Nat) (ad : Option Addr) (cap : Nat) (xs : List Int) (hs : a.eval s = .slice ad xs.length cap) (hown : Ow w base ad cap xs)
    (ad2 : Option Addr) (c2 : Nat) (ys : List Int) (hx : a.eval x = .slice ad2 ys.length c2) (hsl : Sl w ad2 c2 ys) (hlen : xs.length + ys.length ≤ 1000000) (hbase : base ≤ w.heap.size)
    (h : ∀ ad' cap' w', Ow w' base ad' cap' (xs ++ ys) → Below base w w' → wpList Tryz.prog ops Q rest (a.put o.dst (.slice ad' (xs ++ ys).length cap')) w') : wpList Tryz.prog ops Q (o :: rest) a w := by
  obtain ⟨i0, hi0, hz0, hz1, hz2⟩ := info_parts infoI
  cases ad2 with
  | none =>
    have hc := hsl.no rfl
    have hl0 := hsl.le
    obtain rfl : ys = [] := List.eq_nil_of_length_eq_zero (by omega)
    subst hc
    refine wpList_plain hgd fun K hK' => ?_
    have hrun := run_append_owned_none (P := Tryz.prog) w base 43 o.type 3 i0 1 Tryz.underlying43 hi0 _ _ _ hown
    unfold Oper.wp
    simp only [List.length_nil] at hx
    simp [execOp, ho, resolve, invoke, builtin, hs, hx, hrun, Result.andThen]
    exact hK' _ _ (by simpa using h ad cap w (by simpa using hown) (Below.refl _ _))
  | some a2 =>
    refine wpList_append_own_at _ hgd s x 43 ho base 3 i0 (.int .i64 0) 1 8 Tryz.underlying43 hi0 hz0 hz1 hz2 rfl (by decide) _ xs.length (xs.map (Value.int .i64)) hs hown a2 ys.length c2 (ys.map (Value.int .i64)) hx (by simp) hsl.news (one_cells ys) (by unfold maxLen; omega) (by omega) hbase ?_
    intro v' w' ho' hg' _ _
    obtain ⟨ad', cap', rfl⟩ := row_form ho'
    have h1 : Ow w' base ad' cap' (xs ++ ys) := by unfold Ow; rw [List.length_append, List.map_append]; exact ho'
    have h2 : Below base w w' := (Below.refl base w).grown hg' hbase (fun k e => (hown.lt k e).1)
    have := h ad' cap' w' h1 h2
    rwa [List.length_append] at this

theorem Sl.ints {w : World} {ad : Option Addr} {cap : Nat} {l : List Int} (h : Sl w ad cap l) : Ints w ad l := by
  rcases h.at' with h | ⟨b, o, e, h1, h2⟩
  · exact .inl h
  · exact .inr ⟨b, o, e, fun j x hx => by
      obtain ⟨hj, rfl⟩ := List.getElem?_eq_some_iff.1 hx
      exact h2 j hj⟩
theorem Ints.sl {w : World} {ad : Option Addr} {cap : Nat} {l : List Int} (h : Ints w ad l) (hc : l.length ≤ cap) (hn : ad = none → cap = 0) : Sl w ad cap l := by
  refine ⟨hc, hn, ?_⟩
  rcases h with h | ⟨b, o, e, h2⟩
  · exact .inl h
  · by_cases hl : l = []
    · exact .inl hl
    · have hp : 0 < l.length := List.length_pos_iff.2 hl
      exact .inr ⟨b, o, e, World.block_lt_of_cell? w _ (h2 0 _ (List.getElem?_eq_getElem hp)), fun j hj => h2 j _ (List.getElem?_eq_getElem hj)⟩
theorem rows_cases (L : Lb) (tp : ByteArray) : ∀ (ops more : List Int) (m : Nat) (t : Dt.Tr (m + 1)), Ok (m + 1) t → (∃ m' : Nat, ∃ t' : Dt.Tr (m' + 1), rows L tp ops (good t) = good t' ∧ Ok (m' + 1) t' ∧ rows L tp (ops ++ more) (good t) = rows L tp more (good t')) ∨ ∃ er pk pn, (er == 0) = false ∧ rows L tp ops (good t) = bad er pk pn ∧ rows L tp (ops ++ more) (good t) = bad er pk pn
  | [], more, m, t, h => .inl ⟨m, t, rfl, h, rfl⟩
  | op :: ops, more, m, t, h => by
    rcases map_cases L op tp t h with ⟨m', t', e, h'⟩ | ⟨er, pk, pn, her, e⟩
    · rcases rows_cases L tp ops more m' t' h' with ⟨m2, t2, a, b, c⟩ | ⟨er, pk, pn, her, a, b⟩
      · exact .inl ⟨m2, t2, (rows_good L tp op ops t t' e).trans a, b, (rows_good L tp op (ops ++ more) t t' e).trans c⟩
      · exact .inr ⟨er, pk, pn, her, (rows_good L tp op ops t t' e).trans a, (rows_good L tp op (ops ++ more) t t' e).trans b⟩
    · exact .inr ⟨er, pk, pn, her, rows_bad L tp op ops t er pk pn her e, rows_bad L tp op (ops ++ more) t er pk pn her e⟩

set_option maxRecDepth 100000 in
set_option maxHeartbeats 4000000 in
theorem law_rows (ops more : List Int) (a1 a2 : Option Addr) (c1 c2 : Nat) (tp : ByteArray) (htp : tp.size ≤ maxLen) (k i u : Int) (s : ByteArray) (a : Option Addr) (n c : Nat) {m : Nat} (t : Dt.Tr m) (r6 : Dt.r64 m t) (i6 : i64A m t) (w : World) (hr : Dt.Rep w m [.int .i64 k, .int .i64 i, .int .u64 u, .string s, .slice a n c] t) (hI1 : Sl w a1 c1 ops) (hI2 : Sl w a2 c2 more) (hb1 : ops.length ≤ 140737488355328) (hb2 : more.length ≤ 140737488355328) (hT : Dt.Tab14 w) (hP : Dt.P10 w) :
    Calls Tryz.prog 5 #[.slice a1 ops.length c1, .slice a2 more.length c2, .string tp, .agg #[.int .i64 k, .int .i64 i, .int .u64 u, .string s, .slice a n c]] w fun e w' => e = .returned (.bool true) ∧ Below w.heap.size w w' := by
  have B0 := below1 w (.cells #[.int .i64 k, .int .i64 i, .int .u64 u, .string s, .slice a n c] 25)
  have D0 := Bk.new w #[.int .i64 k, .int .i64 i, .int .u64 u, .string s, .slice a n c] 25
  have HV := Lib.hid (Dt.refValid m t _ _ _ _ _ _ (Dt.Rep.below B0 _ _ _ hr))
  have KA0 := Lib.hid (fun wx (hx : Below w.heap.size w wx) => awake_any wx (hT.below hx))
  cases hv : Dt.vB m t with
  | false =>
    rw [hv] at HV
    clear hr hT hP r6 i6 hv hI1 hI2
    go_enter Tryz.func5, Tryz.ntmps5
    go_wp2_with fail
    refine HV.out.mono ?_
    rintro e w1 ⟨rfl, b1⟩
    have B1 := B0.trans (b1.mono B0.size)
    go_wp2_with fail
    refine (KA0.out _ B1).mono ?_
    rintro e w2 ⟨rfl, b2⟩
    go_wp2
    go_ret
    exact ⟨rfl, B1.trans (b2.mono B1.size)⟩
  | true =>
  rw [hv] at HV
  by_cases hl : 65535 < tp.size
  · have hq : decide (65535 < (tp.size : Int)) = true := decide_eq_true (by omega)
    have hq' : decide (65535 < tp.size) = true := decide_eq_true hl
    clear hr hT hP r6 i6 hv hI1 hI2
    go_enter Tryz.func5, Tryz.ntmps5
    go_wp2_with fail
    refine HV.out.mono ?_
    rintro e w1 ⟨rfl, b1⟩
    have B1 := B0.trans (b1.mono B0.size)
    go_wp2_with fail
    refine (KA0.out _ B1).mono ?_
    rintro e w2 ⟨rfl, b2⟩
    go_wp2
    go_ret
    exact ⟨rfl, B1.trans (b2.mono B1.size)⟩
  by_cases hs : 40 < ops.length + more.length
  · have hq : decide (65535 < (tp.size : Int)) = false := decide_eq_false (by omega)
    have hq' : decide (65535 < tp.size) = false := decide_eq_false hl
    have hq3 : decide (40 < (ops.length : Int) + (more.length : Int)) = true := decide_eq_true (by omega)
    have hq4 : decide (40 < ops.length + more.length) = true := decide_eq_true hs
    have hq5 : decide (40 < wrap64 ((ops.length : Int) + (more.length : Int))) = true := decide_eq_true (by unfold wrap64; omega)
    clear hr hT hP r6 i6 hv hI1 hI2
    go_enter Tryz.func5, Tryz.ntmps5
    go_wp2_with fail
    refine HV.out.mono ?_
    rintro e w1 ⟨rfl, b1⟩
    have B1 := B0.trans (b1.mono B0.size)
    go_wp2_with fail
    refine (KA0.out _ B1).mono ?_
    rintro e w2 ⟨rfl, b2⟩
    go_wp2
    go_ret
    exact ⟨rfl, B1.trans (b2.mono B1.size)⟩
  cases m with
  | zero => exact Empty.elim t
  | succ m =>
  have ho : Ok (m + 1) t := ⟨hv, r6, i6⟩
  rcases rows_cases keyL tp ops more m t ho with ⟨m', t', ea, ho', eb⟩ | ⟨er, pk, pn, her, ea, eb⟩
  · obtain ⟨rb, ec⟩ : ∃ rb, rows keyL tp more (good t') = rb := ⟨_, rfl⟩
    rw [ec] at eb
    have HMA : Hid (∀ wx, Below w.heap.size w wx → Calls Tryz.prog 17 #[.slice a1 ops.length c1, .string tp, .agg #[.int .i64 k, .int .i64 i, .int .u64 u, .string s, .slice a n c]] wx fun e w' => ∃ y0 y1 y2 y3 y4 y5 y6, e = .returned (.agg (rcs 0 0 0 0 true y0 y1 y2 y3 y4 y5 y6)) ∧ Dt.Rf (fun g => wx.heap.size ≤ g ∧ g < w'.heap.size) w' (m' + 1) [.int .i64 y0, .int .i64 y1, .int .u64 y2, .string y3, .slice y4 y5 y6] t' ∧ Below wx.heap.size wx w') := fun wx hx => by
      have := maps_any keyL ops a1 c1 tp htp k i u s a n c t ho wx (Dt.Rep.below hx _ _ _ hr) (hI1.ints.below hx) (by omega) (hT.below hx) (fun _ _ _ => nameOk_key (hP.below hx))
      rw [ea] at this
      exact this
    have HMB : Hid (∀ wx, Below w.heap.size w wx → ∀ ad' cap', Ints wx ad' (ops ++ more) → Calls Tryz.prog 17 #[.slice ad' (ops.length + more.length) cap', .string tp, .agg #[.int .i64 k, .int .i64 i, .int .u64 u, .string s, .slice a n c]] wx fun e w' => ∃ z0 z1 z2 z3 z4 z5 z6, e = .returned (.agg (rcs rb.er 0 rb.pk rb.pn rb.has z0 z1 z2 z3 z4 z5 z6)) ∧ Dt.Rf (fun g => wx.heap.size ≤ g ∧ g < w'.heap.size) w' rb.n [.int .i64 z0, .int .i64 z1, .int .u64 z2, .string z3, .slice z4 z5 z6] rb.t ∧ Below wx.heap.size wx w') := fun wx hx ad' cap' hI => by
      have := maps_any keyL (ops ++ more) ad' cap' tp htp k i u s a n c t ho wx (Dt.Rep.below hx _ _ _ hr) hI (by simp; omega) (hT.below hx) (fun _ _ _ => nameOk_key (hP.below hx))
      rw [eb, List.length_append] at this
      exact this
    have HRM : Hid (∀ wx, Below w.heap.size w wx → Calls Tryz.prog 18 #[.slice a1 ops.length c1, .string tp, .agg #[.int .i64 k, .int .i64 i, .int .u64 u, .string s, .slice a n c]] wx fun e w' => ∃ y0 y1 y2 y3 y4 y5 y6, e = .returned (.agg (rcs 0 0 0 0 true y0 y1 y2 y3 y4 y5 y6)) ∧ Dt.Rep w' (m' + 1) [.int .i64 y0, .int .i64 y1, .int .u64 y2, .string y3, .slice y4 y5 y6] t' ∧ Below wx.heap.size wx w') := fun wx hx => by
      have := rmaps_any ops a1 c1 tp htp k i u s a n c t ho wx (Dt.Rep.below hx _ _ _ hr) (hI1.ints.below hx) (by omega) (hP.below hx)
      rw [ea] at this
      exact this
    have HM3 : Hid (∀ wx, Below w.heap.size w wx → ∀ y0 y1 y2 y3 y4 y5 y6, Dt.Rep wx (m' + 1) [.int .i64 y0, .int .i64 y1, .int .u64 y2, .string y3, .slice y4 y5 y6] t' → Calls Tryz.prog 17 #[.slice a2 more.length c2, .string tp, .agg #[.int .i64 y0, .int .i64 y1, .int .u64 y2, .string y3, .slice y4 y5 y6]] wx fun e w' => ∃ z0 z1 z2 z3 z4 z5 z6, e = .returned (.agg (rcs rb.er 0 rb.pk rb.pn rb.has z0 z1 z2 z3 z4 z5 z6)) ∧ Dt.Rf (fun g => wx.heap.size ≤ g ∧ g < w'.heap.size) w' rb.n [.int .i64 z0, .int .i64 z1, .int .u64 z2, .string z3, .slice z4 z5 z6] rb.t ∧ Below wx.heap.size wx w') := fun wx hx y0 y1 y2 y3 y4 y5 y6 hy => by
      have := maps_any keyL more a2 c2 tp htp y0 y1 y2 y3 y4 y5 y6 t' ho' wx hy (hI2.ints.below hx) (by omega) (hT.below hx) (fun _ _ _ => nameOk_key (hP.below hx))
      rw [ec] at this
      exact this
    have HI1 := Lib.hid hI1
    have HI2 := Lib.hid hI2
    clear hr hT hP r6 i6 hv ho ea eb ec ho'
    have hq1 : decide (65535 < (tp.size : Int)) = false := decide_eq_false (by omega)
    have hq2 : decide (65535 < tp.size) = false := decide_eq_false (by omega)
    have hq3 : decide (40 < (ops.length : Int) + (more.length : Int)) = false := decide_eq_false (by omega)
    have hq4 : decide (40 < ops.length + more.length) = false := decide_eq_false (by omega)
    have hq5 : decide (40 < wrap64 ((ops.length : Int) + (more.length : Int))) = false := decide_eq_false (by unfold wrap64; omega)
    go_enter Tryz.func5, Tryz.ntmps5
    go_wp2_with (first
      | (go_at_call 7; refine HV.out.mono ?_; rintro e w1 ⟨rfl, b1⟩; have B1 := B0.trans (b1.mono B0.size); have D1 := D0.step b1; have SA := HI1.out.step B1; have SB := HI2.out.step B1; clear HV)
      | (at_builtin; refine wpList_app rfl _ _ rfl w1.heap.size ad1 cp1 ([] ++ ops) rfl o2 a2 c2 more rfl (SB.step b2) (by simp; omega) b2.size ?_; intro ad2 cp2 w3 o3 b3; have D3 : Bk w3 w.heap.size #[.int .i64 k, .int .i64 i, .int .u64 u, .string s, .slice a n c] 25 := (b3.block _ D1.lt).trans ((b2.block _ D1.lt).trans D1); obtain ⟨d0, d1, d2, d3, d4⟩ := D3.c5)
      | (at_builtin; refine wpList_app rfl _ _ rfl w1.heap.size none 0 [] rfl (Ow.nil w1 _) a1 c1 ops rfl SA (by simp; omega) (Nat.le_refl _) ?_; intro ad1 cp1 w2 o2 b2)
      | fail)
    have b13 := b2.trans b3
    have B3 := B1.trans (b13.mono B1.size)
    have I3 := o3.sl.ints
    rw [List.nil_append] at I3
    clear d0 d1 d2 d3 d4
    refine (HMA.out _ B3).mono ?_
    rintro e w4 ⟨y0, y1, y2, y3, y4, y5, y6, rfl, rf, b4⟩
    have QA := Lib.hid (Dt.Rf.rep _ _ _ rf)
    have D4 := D3.step b4
    have B4 := B3.trans (b4.mono B3.size)
    have I4 := I3.below b4
    clear rf b4 D3 D1 I3 B3
    have b5 := below1 w4 (.cells (rcs 0 0 0 0 true y0 y1 y2 y3 y4 y5 y6) 33)
    have M5 := Bk.new w4 (rcs 0 0 0 0 true y0 y1 y2 y3 y4 y5 y6) 33
    have D5 := D4.step b5
    have B5 := B4.trans (b5.mono B4.size)
    have I5 := I4.below b5
    have QA5 := Lib.hid (Dt.Rep.below b5 _ _ _ QA.out)
    have lD := D4.lt
    obtain ⟨d0, d1, d2, d3, d4⟩ := D4.c5
    clear QA I4 D4 B4 b5
    go_wp2_with fail
    clear d0 d1 d2 d3 d4 lD
    refine (HMB.out _ B5 _ _ I5).mono ?_
    rintro e w6 ⟨z0, z1, z2, z3, z4, z5, z6, rfl, rf, b6⟩
    have QB := Lib.hid (Dt.Rf.rep _ _ _ rf)
    have QA6 := Lib.hid (Dt.Rep.below b6 _ _ _ QA5.out)
    have D6 := D5.step b6
    have M6 := M5.step b6
    have B6 := B5.trans (b6.mono B5.size)
    clear rf b6 D5 M5 B5 I5 QA5
    obtain ⟨N10, hN10⟩ : ∃ N10, w4.heap.size = N10 := ⟨_, rfl⟩
    rw [hN10] at M6
    obtain ⟨N11, hN11⟩ : ∃ N11, w6.heap.size = N11 := ⟨_, rfl⟩
    have b7 := below1 w6 (.cells (rcs rb.er 0 rb.pk rb.pn rb.has z0 z1 z2 z3 z4 z5 z6) 33)
    have P7 := Bk.new w6 (rcs rb.er 0 rb.pk rb.pn rb.has z0 z1 z2 z3 z4 z5 z6) 33
    rw [hN11] at P7
    have D7 := D6.step b7
    have M7 := M6.step b7
    have B7 := B6.trans (b7.mono B6.size)
    have QA7 := Lib.hid (Dt.Rep.below b7 _ _ _ QA6.out)
    have QB7 := Lib.hid (Dt.Rep.below b7 _ _ _ QB.out)
    clear QA6 QB D6 M6 B6 b7
    go_wp2_with fail
    rw [hN10, hN11] at *
    obtain ⟨W9, hW9⟩ : ∃ W9, W9 = w6.alloc (.cells (rcs rb.er 0 rb.pk rb.pn rb.has z0 z1 z2 z3 z4 z5 z6) 33) := ⟨_, rfl⟩
    rw [← hW9] at QA7 QB7 D7 M7 P7 B7
    simp only [← hW9]
    have B9 := B7
    have KC : Hid (∀ wx, Below W9.heap.size W9 wx → (fun wx => wx.cell? ⟨w.heap.size, 0, none⟩ = some (.int .i64 k) ∧ wx.cell? ⟨w.heap.size, 1, none⟩ = some (.int .i64 i) ∧ wx.cell? ⟨w.heap.size, 2, none⟩ = some (.int .u64 u) ∧ wx.cell? ⟨w.heap.size, 3, none⟩ = some (.string s) ∧ wx.cell? ⟨w.heap.size, 4, none⟩ = some (.slice a n c) ∧ wx.cell? ⟨N10, 0, none⟩ = some (.int .i64 0) ∧ wx.cell? ⟨N10, 1, none⟩ = some (.int .i64 0) ∧ wx.cell? ⟨N10, 2, none⟩ = some (.int .i64 0) ∧ wx.cell? ⟨N10, 3, none⟩ = some (.int .i64 0) ∧ wx.cell? ⟨N10, 4, none⟩ = some (.bool true) ∧ wx.cell? ⟨N10, 5, none⟩ = some (.int .i64 y0) ∧ wx.cell? ⟨N10, 6, none⟩ = some (.int .i64 y1) ∧ wx.cell? ⟨N10, 7, none⟩ = some (.int .u64 y2) ∧ wx.cell? ⟨N10, 8, none⟩ = some (.string y3) ∧ wx.cell? ⟨N10, 9, none⟩ = some (.slice y4 y5 y6) ∧ wx.cell? ⟨N11, 0, none⟩ = some (.int .i64 rb.er) ∧ wx.cell? ⟨N11, 1, none⟩ = some (.int .i64 0) ∧ wx.cell? ⟨N11, 2, none⟩ = some (.int .i64 rb.pk) ∧ wx.cell? ⟨N11, 3, none⟩ = some (.int .i64 rb.pn) ∧ wx.cell? ⟨N11, 4, none⟩ = some (.bool rb.has) ∧ wx.cell? ⟨N11, 5, none⟩ = some (.int .i64 z0) ∧ wx.cell? ⟨N11, 6, none⟩ = some (.int .i64 z1) ∧ wx.cell? ⟨N11, 7, none⟩ = some (.int .u64 z2) ∧ wx.cell? ⟨N11, 8, none⟩ = some (.string z3) ∧ wx.cell? ⟨N11, 9, none⟩ = some (.slice z4 z5 z6)) wx) := fun wx hb => by
      obtain ⟨d0, d1, d2, d3, d4⟩ := (D7.step hb).c5
      obtain ⟨f0, f1, f2, f3, f4, f5, f6, f7, f8, f9⟩ := (M7.step hb).c10
      obtain ⟨g0, g1, g2, g3, g4, g5, g6, g7, g8, g9⟩ := (P7.step hb).c10
      exact ⟨d0, d1, d2, d3, d4, f0, f1, f2, f3, f4, f5, f6, f7, f8, f9, g0, g1, g2, g3, g4, g5, g6, g7, g8, g9⟩
    have KR : Hid (∀ wx, Below W9.heap.size W9 wx → Calls Tryz.prog 18 #[.slice a1 ops.length c1, .string tp, .agg #[.int .i64 k, .int .i64 i, .int .u64 u, .string s, .slice a n c]] wx fun e w' => ∃ y0 y1 y2 y3 y4 y5 y6, e = .returned (.agg (rcs 0 0 0 0 true y0 y1 y2 y3 y4 y5 y6)) ∧ Dt.Rep w' (m' + 1) [.int .i64 y0, .int .i64 y1, .int .u64 y2, .string y3, .slice y4 y5 y6] t' ∧ Below wx.heap.size wx w') := fun wx hb => HRM.out wx (B9.trans (hb.mono B9.size))
    have KS1 : Hid (∀ wx, Below W9.heap.size W9 wx → ∀ (j0 j1 j2 : Int) (j3 : ByteArray) (j4 : Option Addr) (j5 j6 : Nat), Dt.Rep wx (m' + 1) [.int .i64 j0, .int .i64 j1, .int .u64 j2, .string j3, .slice j4 j5 j6] t' → Calls Tryz.prog 11 #[.agg (rcs 0 0 0 0 true y0 y1 y2 y3 y4 y5 y6), .agg (rcs 0 0 0 0 true j0 j1 j2 j3 j4 j5 j6)] wx fun e w' => e = .returned (.bool true) ∧ Below wx.heap.size wx w') := fun wx hb j0 j1 j2 j3 j4 j5 j6 hz => rsame_any 0 0 0 true y0 y1 y2 y3 y4 y5 y6 j0 j1 j2 j3 j4 j5 j6 wx fun wy hy => Dt.sameD _ t' _ _ _ _ _ _ _ _ _ _ wy (Dt.Rep.below (hb.trans (hy.mono hb.size)) _ _ _ QA7.out) (Dt.Rep.below hy _ _ _ hz)
    have KA : Hid (∀ wx, Below W9.heap.size W9 wx → Calls Tryz.prog 8 #[] wx fun e w' => e = .returned (.bool true) ∧ Below wx.heap.size wx w') := fun wx hb => KA0.out wx (B9.trans (hb.mono B9.size))
    have KM3 : Hid (∀ wx, Below W9.heap.size W9 wx → Calls Tryz.prog 17 #[.slice a2 more.length c2, .string tp, .agg #[.int .i64 y0, .int .i64 y1, .int .u64 y2, .string y3, .slice y4 y5 y6]] wx fun e w' => ∃ z0 z1 z2 z3 z4 z5 z6, e = .returned (.agg (rcs rb.er 0 rb.pk rb.pn rb.has z0 z1 z2 z3 z4 z5 z6)) ∧ Dt.Rf (fun g => wx.heap.size ≤ g ∧ g < w'.heap.size) w' rb.n [.int .i64 z0, .int .i64 z1, .int .u64 z2, .string z3, .slice z4 z5 z6] rb.t ∧ Below wx.heap.size wx w') := fun wx hb => HM3.out wx (B9.trans (hb.mono B9.size)) _ _ _ _ _ _ _ (Dt.Rep.below hb _ _ _ QA7.out)
    have KS3 : Hid (∀ wx, Below W9.heap.size W9 wx → ∀ (j0 j1 j2 : Int) (j3 : ByteArray) (j4 : Option Addr) (j5 j6 : Nat), Dt.Rep wx rb.n [.int .i64 j0, .int .i64 j1, .int .u64 j2, .string j3, .slice j4 j5 j6] rb.t → Calls Tryz.prog 11 #[.agg (rcs rb.er 0 rb.pk rb.pn rb.has z0 z1 z2 z3 z4 z5 z6), .agg (rcs rb.er 0 rb.pk rb.pn rb.has j0 j1 j2 j3 j4 j5 j6)] wx fun e w' => e = .returned (.bool true) ∧ Below wx.heap.size wx w') := fun wx hb j0 j1 j2 j3 j4 j5 j6 hz => rsame_any rb.er rb.pk rb.pn rb.has z0 z1 z2 z3 z4 z5 z6 j0 j1 j2 j3 j4 j5 j6 wx fun wy hy => Dt.sameD _ rb.t _ _ _ _ _ _ _ _ _ _ wy (Dt.Rep.below (hb.trans (hy.mono hb.size)) _ _ _ QB7.out) (Dt.Rep.below hy _ _ _ hz)
    clear HMA HMB HRM KA0 QA7 QB7 D7 M7 P7 hW9 B7 HI1 HI2 HM3 o2 o3 SA SB
    have b0 : Below W9.heap.size W9 W9.drew := (Below.refl _ _).drew
    refine wp_region_held_drew (S := (fun wx => wx.cell? ⟨w.heap.size, 0, none⟩ = some (.int .i64 k) ∧ wx.cell? ⟨w.heap.size, 1, none⟩ = some (.int .i64 i) ∧ wx.cell? ⟨w.heap.size, 2, none⟩ = some (.int .u64 u) ∧ wx.cell? ⟨w.heap.size, 3, none⟩ = some (.string s) ∧ wx.cell? ⟨w.heap.size, 4, none⟩ = some (.slice a n c) ∧ wx.cell? ⟨N10, 0, none⟩ = some (.int .i64 0) ∧ wx.cell? ⟨N10, 1, none⟩ = some (.int .i64 0) ∧ wx.cell? ⟨N10, 2, none⟩ = some (.int .i64 0) ∧ wx.cell? ⟨N10, 3, none⟩ = some (.int .i64 0) ∧ wx.cell? ⟨N10, 4, none⟩ = some (.bool true) ∧ wx.cell? ⟨N10, 5, none⟩ = some (.int .i64 y0) ∧ wx.cell? ⟨N10, 6, none⟩ = some (.int .i64 y1) ∧ wx.cell? ⟨N10, 7, none⟩ = some (.int .u64 y2) ∧ wx.cell? ⟨N10, 8, none⟩ = some (.string y3) ∧ wx.cell? ⟨N10, 9, none⟩ = some (.slice y4 y5 y6) ∧ wx.cell? ⟨N11, 0, none⟩ = some (.int .i64 rb.er) ∧ wx.cell? ⟨N11, 1, none⟩ = some (.int .i64 0) ∧ wx.cell? ⟨N11, 2, none⟩ = some (.int .i64 rb.pk) ∧ wx.cell? ⟨N11, 3, none⟩ = some (.int .i64 rb.pn) ∧ wx.cell? ⟨N11, 4, none⟩ = some (.bool rb.has) ∧ wx.cell? ⟨N11, 5, none⟩ = some (.int .i64 z0) ∧ wx.cell? ⟨N11, 6, none⟩ = some (.int .i64 z1) ∧ wx.cell? ⟨N11, 7, none⟩ = some (.int .u64 z2) ∧ wx.cell? ⟨N11, 8, none⟩ = some (.string z3) ∧ wx.cell? ⟨N11, 9, none⟩ = some (.slice z4 z5 z6))) (by kernel_rfl) (KC.out _ b0) (fun hHeld => ?_)
    generalize W9.drew = w1 at *
    refine wpAnyH_take (i := 0) (oi := { dst := some 43, op := Op.load 33 (Operand.tmp 10), type := 33, pos := _, after := #[], guard := none }) (v := ?tr8g1) rfl (by kernel_rfl) (by kernel_rfl) (by kernel_rfl) (fun _ _ _ h => h) (Or.inl ⟨by rfl, ?ur8g1⟩) (by assumption) ?rr8g1
    case ur8g1 => (intro w hSw; (try dsimp only at hSw); go_simp; (try with_reducible rfl))
    simp only [Act.put, List.setIfInBounds_toArray, List.set_cons_zero, List.set_cons_succ]
    refine wpAnyH_take (i := 1) (oi := { dst := some 44, op := Op.move (Operand.tmp 0), type := 43, pos := _, after := #[], guard := none }) (v := ?tr8g2) rfl (by kernel_rfl) (by kernel_rfl) (by kernel_rfl) (fun _ _ _ h => h) (Or.inl ⟨by rfl, ?ur8g2⟩) (by assumption) ?rr8g2
    case ur8g2 => (intro w hSw; (try dsimp only at hSw); go_simp; (try with_reducible rfl))
    simp only [Act.put, List.setIfInBounds_toArray, List.set_cons_zero, List.set_cons_succ]
    refine wpAnyH_take (i := 2) (oi := { dst := some 45, op := Op.move (Operand.tmp 2), type := 9, pos := _, after := #[], guard := none }) (v := ?tr8g3) rfl (by kernel_rfl) (by kernel_rfl) (by kernel_rfl) (fun _ _ _ h => h) (Or.inl ⟨by rfl, ?ur8g3⟩) (by assumption) ?rr8g3
    case ur8g3 => (intro w hSw; (try dsimp only at hSw); go_simp; (try with_reducible rfl))
    simp only [Act.put, List.setIfInBounds_toArray, List.set_cons_zero, List.set_cons_succ]
    refine wpAnyH_take (i := 3) (oi := { dst := some 46, op := Op.load 25 (Operand.tmp 7), type := 25, pos := _, after := #[], guard := none }) (v := ?tr8g4) rfl (by kernel_rfl) (by kernel_rfl) (by kernel_rfl) (fun _ _ _ h => h) (Or.inl ⟨by rfl, ?ur8g4⟩) (by assumption) ?rr8g4
    case ur8g4 => (intro w hSw; (try dsimp only at hSw); go_simp; (try with_reducible rfl))
    simp only [Act.put, List.setIfInBounds_toArray, List.set_cons_zero, List.set_cons_succ]
    refine wpAnyH_ready (rs := [4]) (by kernel_rfl) (by simp) ?_
    refine AllReadyH.cons (o := { dst := some 47, op := Op.call { callee := Callee.value (Operand.func 18), args := #[Operand.tmp 44, Operand.tmp 45, Operand.tmp 46], argTypes := #[43, 9, 25] }, type := 33, pos := _, after := #[{ on := 1, ground := Ground.data }, { on := 2, ground := Ground.data }, { on := 3, ground := Ground.data }], guard := none }) rfl (fun K hK => ?_) AllReadyH.nil
    go_simp
    refine (KR.out _ b0).mono ?_
    rintro e wy1 ⟨j0, j1, j2, j3, j4, j5, j6, rfl, hz, e1⟩
    have HZ := Lib.hid hz
    clear hz
    have b1 := b0.trans (e1.mono b0.size)
    clear e1
    go_wp2_with fail
    refine hK.out _ _ (KC.out _ b1) (fun hH1 => ?_)
    clear hK K
    (try simp only [Act.put, List.setIfInBounds_toArray, List.set_cons_zero, List.set_cons_succ])
    refine wpAnyH_ready (rs := [5]) (by kernel_rfl) (by simp) ?_
    refine AllReadyH.cons (o := { dst := some 48, op := Op.call { callee := Callee.value (Operand.func 11), args := #[Operand.tmp 43, Operand.tmp 47], argTypes := #[33, 33] }, type := 4, pos := _, after := #[{ on := 0, ground := Ground.data }, { on := 4, ground := Ground.data }, { on := 4, ground := Ground.chain }], guard := none }) rfl (fun K hK => ?_) AllReadyH.nil
    go_simp
    refine (KS1.out _ b1 _ _ _ _ _ _ _ HZ.out).mono ?_
    rintro e wy2 ⟨rfl, e2⟩
    have b2 := b1.trans (e2.mono b1.size)
    clear e2
    go_wp2_with fail
    refine hK.out _ _ (KC.out _ b2) (fun hH2 => ?_)
    clear hK K
    (try simp only [Act.put, List.setIfInBounds_toArray, List.set_cons_zero, List.set_cons_succ])
    refine wpAnyH_take (i := 6) (oi := { dst := some 49, op := Op.unOp UnOp.not 4 (Operand.tmp 48), type := 4, pos := _, after := #[{ on := 5, ground := Ground.data }], guard := none }) (v := ?tr8g5) rfl (by kernel_rfl) (by kernel_rfl) (by kernel_rfl) (fun _ _ _ h => h) (Or.inl ⟨by rfl, ?ur8g5⟩) (by assumption) ?rr8g5
    case ur8g5 => (intro w hSw; (try dsimp only at hSw); go_simp; (try with_reducible rfl))
    simp only [Act.put, List.setIfInBounds_toArray, List.set_cons_zero, List.set_cons_succ]
    refine wpAnyH_done (by kernel_rfl) ?_ _
    have KCx := KC.out _ b2
    obtain ⟨d0, d1, d2, d3, d4, f0, f1, f2, f3, f4, f5, f6, f7, f8, f9, g0, g1, g2, g3, g4, g5, g6, g7, g8, g9⟩ := KCx
    go_wp2_with fail
    clear d0 d1 d2 d3 d4 f0 f1 f2 f3 f4 f5 f6 f7 f8 f9 g0 g1 g2 g3 g4 g5 g6 g7 g8 g9 HZ
    have bz3 : Below W9.heap.size W9 wy2.drew := b2.drew
    refine wp_region_held_drew (S := (fun wx => wx.cell? ⟨w.heap.size, 0, none⟩ = some (.int .i64 k) ∧ wx.cell? ⟨w.heap.size, 1, none⟩ = some (.int .i64 i) ∧ wx.cell? ⟨w.heap.size, 2, none⟩ = some (.int .u64 u) ∧ wx.cell? ⟨w.heap.size, 3, none⟩ = some (.string s) ∧ wx.cell? ⟨w.heap.size, 4, none⟩ = some (.slice a n c) ∧ wx.cell? ⟨N10, 0, none⟩ = some (.int .i64 0) ∧ wx.cell? ⟨N10, 1, none⟩ = some (.int .i64 0) ∧ wx.cell? ⟨N10, 2, none⟩ = some (.int .i64 0) ∧ wx.cell? ⟨N10, 3, none⟩ = some (.int .i64 0) ∧ wx.cell? ⟨N10, 4, none⟩ = some (.bool true) ∧ wx.cell? ⟨N10, 5, none⟩ = some (.int .i64 y0) ∧ wx.cell? ⟨N10, 6, none⟩ = some (.int .i64 y1) ∧ wx.cell? ⟨N10, 7, none⟩ = some (.int .u64 y2) ∧ wx.cell? ⟨N10, 8, none⟩ = some (.string y3) ∧ wx.cell? ⟨N10, 9, none⟩ = some (.slice y4 y5 y6) ∧ wx.cell? ⟨N11, 0, none⟩ = some (.int .i64 rb.er) ∧ wx.cell? ⟨N11, 1, none⟩ = some (.int .i64 0) ∧ wx.cell? ⟨N11, 2, none⟩ = some (.int .i64 rb.pk) ∧ wx.cell? ⟨N11, 3, none⟩ = some (.int .i64 rb.pn) ∧ wx.cell? ⟨N11, 4, none⟩ = some (.bool rb.has) ∧ wx.cell? ⟨N11, 5, none⟩ = some (.int .i64 z0) ∧ wx.cell? ⟨N11, 6, none⟩ = some (.int .i64 z1) ∧ wx.cell? ⟨N11, 7, none⟩ = some (.int .u64 z2) ∧ wx.cell? ⟨N11, 8, none⟩ = some (.string z3) ∧ wx.cell? ⟨N11, 9, none⟩ = some (.slice z4 z5 z6))) (by kernel_rfl) (KC.out _ bz3) (fun hHeld3 => ?_)
    generalize wy2.drew = wq3 at *
    refine wpAnyH_take (i := 0) (oi := { dst := some 59, op := Op.load 33 (Operand.tmp 11), type := 33, pos := _, after := #[], guard := none }) (v := ?trg31) rfl (by kernel_rfl) (by kernel_rfl) (by kernel_rfl) (fun _ _ _ h => h) (Or.inl ⟨by rfl, ?urg31⟩) (by assumption) ?rrg31
    case urg31 => (intro w hSw; (try dsimp only at hSw); go_simp; (try with_reducible rfl))
    simp only [Act.put, List.setIfInBounds_toArray, List.set_cons_zero, List.set_cons_succ]
    refine wpAnyH_take (i := 1) (oi := { dst := some 60, op := Op.move (Operand.tmp 1), type := 43, pos := _, after := #[], guard := none }) (v := ?trg32) rfl (by kernel_rfl) (by kernel_rfl) (by kernel_rfl) (fun _ _ _ h => h) (Or.inl ⟨by rfl, ?urg32⟩) (by assumption) ?rrg32
    case urg32 => (intro w hSw; (try dsimp only at hSw); go_simp; (try with_reducible rfl))
    simp only [Act.put, List.setIfInBounds_toArray, List.set_cons_zero, List.set_cons_succ]
    refine wpAnyH_take (i := 2) (oi := { dst := some 61, op := Op.move (Operand.tmp 2), type := 9, pos := _, after := #[], guard := none }) (v := ?trg33) rfl (by kernel_rfl) (by kernel_rfl) (by kernel_rfl) (fun _ _ _ h => h) (Or.inl ⟨by rfl, ?urg33⟩) (by assumption) ?rrg33
    case urg33 => (intro w hSw; (try dsimp only at hSw); go_simp; (try with_reducible rfl))
    simp only [Act.put, List.setIfInBounds_toArray, List.set_cons_zero, List.set_cons_succ]
    refine wpAnyH_take (i := 3) (oi := { dst := some 62, op := Op.fieldAddr 33 (Operand.tmp 10) 4, type := 0, pos := _, after := #[], guard := none }) (v := ?trg34) rfl (by kernel_rfl) (by kernel_rfl) (by kernel_rfl) (fun _ _ _ h => h) (Or.inl ⟨by rfl, ?urg34⟩) (by assumption) ?rrg34
    case urg34 => (intro w hSw; (try dsimp only at hSw); go_simp; (try with_reducible rfl))
    simp only [Act.put, List.setIfInBounds_toArray, List.set_cons_zero, List.set_cons_succ]
    refine wpAnyH_take (i := 4) (oi := { dst := some 63, op := Op.load 25 (Operand.tmp 62), type := 25, pos := _, after := #[{ on := 3, ground := Ground.data }], guard := none }) (v := ?trg35) rfl (by kernel_rfl) (by kernel_rfl) (by kernel_rfl) (fun _ _ _ h => h) (Or.inl ⟨by rfl, ?urg35⟩) (by assumption) ?rrg35
    case urg35 => (intro w hSw; (try dsimp only at hSw); go_simp; (try with_reducible rfl))
    simp only [Act.put, List.setIfInBounds_toArray, List.set_cons_zero, List.set_cons_succ]
    refine wpAnyH_ready (rs := [5]) (by kernel_rfl) (by simp) ?_
    refine AllReadyH.cons (o := { dst := some 64, op := Op.call { callee := Callee.value (Operand.func 17), args := #[Operand.tmp 60, Operand.tmp 61, Operand.tmp 63], argTypes := #[43, 9, 25] }, type := 33, pos := _, after := #[{ on := 1, ground := Ground.data }, { on := 2, ground := Ground.data }, { on := 4, ground := Ground.data }], guard := none }) rfl (fun K hK => ?_) AllReadyH.nil
    go_simp
    refine (KM3.out _ bz3).mono ?_
    rintro e wy4 ⟨j0, j1, j2, j3, j4, j5, j6, rfl, hz, e4⟩
    have HZ3 := Lib.hid (Dt.Rf.rep _ _ _ hz)
    clear hz
    have b4 := bz3.trans (e4.mono bz3.size)
    clear e4
    go_wp2_with fail
    refine hK.out _ _ (KC.out _ b4) (fun hH4 => ?_)
    clear hK K
    (try simp only [Act.put, List.setIfInBounds_toArray, List.set_cons_zero, List.set_cons_succ])
    refine wpAnyH_ready (rs := [6]) (by kernel_rfl) (by simp) ?_
    refine AllReadyH.cons (o := { dst := some 65, op := Op.call { callee := Callee.value (Operand.func 11), args := #[Operand.tmp 59, Operand.tmp 64], argTypes := #[33, 33] }, type := 4, pos := _, after := #[{ on := 0, ground := Ground.data }, { on := 5, ground := Ground.data }, { on := 5, ground := Ground.chain }], guard := none }) rfl (fun K hK => ?_) AllReadyH.nil
    go_simp
    refine (KS3.out _ b4 _ _ _ _ _ _ _ HZ3.out).mono ?_
    rintro e wy5 ⟨rfl, e5⟩
    have b5 := b4.trans (e5.mono b4.size)
    clear e5
    go_wp2_with fail
    refine hK.out _ _ (KC.out _ b5) (fun hH5 => ?_)
    clear hK K
    (try simp only [Act.put, List.setIfInBounds_toArray, List.set_cons_zero, List.set_cons_succ])
    refine wpAnyH_take (i := 7) (oi := { dst := some 66, op := Op.move (Operand.tmp 65), type := 4, pos := _, after := #[{ on := 6, ground := Ground.data }, { on := 6, ground := Ground.chain }], guard := none }) (v := ?trg36) rfl (by kernel_rfl) (by kernel_rfl) (by kernel_rfl) (fun _ _ _ h => h) (Or.inl ⟨by rfl, ?urg36⟩) (by assumption) ?rrg36
    case urg36 => (intro w hSw; (try dsimp only at hSw); go_simp; (try with_reducible rfl))
    simp only [Act.put, List.setIfInBounds_toArray, List.set_cons_zero, List.set_cons_succ]
    refine wpAnyH_ready (rs := [8]) (by kernel_rfl) (by simp) ?_
    refine AllReadyH.cons (o := { dst := some 67, op := Op.call { callee := Callee.value (Operand.func 8), args := #[], argTypes := #[] }, type := 4, pos := _, after := #[{ on := 7, ground := Ground.chain }, { on := 7, ground := Ground.guard }], guard := some (7, true) }) rfl (fun K hK => ?_) AllReadyH.nil
    go_simp
    refine (KA.out _ b5).mono ?_
    rintro e wy6 ⟨rfl, e6⟩
    have b6 := b5.trans (e6.mono b5.size)
    clear e6
    go_wp2_with fail
    refine hK.out _ _ (KC.out _ b6) (fun hH6 => ?_)
    clear hK K
    (try simp only [Act.put, List.setIfInBounds_toArray, List.set_cons_zero, List.set_cons_succ])
    refine wpAnyH_take (i := 9) (oi := { dst := some 68, op := Op.pick (Operand.tmp 66) (Operand.tmp 67) (Operand.const (Value.bool false)), type := 4, pos := _, after := #[{ on := 7, ground := Ground.data }, { on := 8, ground := Ground.data }], guard := none }) (v := ?trg37) rfl (by kernel_rfl) (by kernel_rfl) (by kernel_rfl) (fun _ _ _ h => h) (Or.inl ⟨by rfl, ?urg37⟩) (by assumption) ?rrg37
    case urg37 => (intro w hSw; (try dsimp only at hSw); go_simp; (try with_reducible rfl))
    simp only [Act.put, List.setIfInBounds_toArray, List.set_cons_zero, List.set_cons_succ]
    refine wpAnyH_take (i := 10) (oi := { dst := some 8, op := Op.assign (Operand.tmp 68), type := 4, pos := _, after := #[{ on := 9, ground := Ground.data }, { on := 8, ground := Ground.chain }, { on := 0, ground := Ground.phase }, { on := 1, ground := Ground.phase }, { on := 2, ground := Ground.phase }, { on := 3, ground := Ground.phase }, { on := 4, ground := Ground.phase }, { on := 5, ground := Ground.phase }, { on := 6, ground := Ground.phase }, { on := 7, ground := Ground.phase }, { on := 8, ground := Ground.phase }, { on := 9, ground := Ground.phase }], guard := none }) (v := ?trg38) rfl (by kernel_rfl) (by kernel_rfl) (by kernel_rfl) (fun _ _ _ h => h) (Or.inl ⟨by rfl, ?urg38⟩) (by assumption) ?rrg38
    case urg38 => (intro w hSw; (try dsimp only at hSw); go_simp; (try with_reducible rfl))
    simp only [Act.put, List.setIfInBounds_toArray, List.set_cons_zero, List.set_cons_succ]
    refine wpAnyH_done (by kernel_rfl) ?_ _
    go_wp2_with fail
    go_ret
    exact ⟨rfl, B9.trans (b6.mono B9.size)⟩
  · skip
    have HMA : Hid (∀ wx, Below w.heap.size w wx → Calls Tryz.prog 17 #[.slice a1 ops.length c1, .string tp, .agg #[.int .i64 k, .int .i64 i, .int .u64 u, .string s, .slice a n c]] wx fun e w' => ∃ y0 y1 y2 y3 y4 y5 y6, e = .returned (.agg (rcs er 0 pk pn false y0 y1 y2 y3 y4 y5 y6)) ∧ Dt.Rf (fun g => wx.heap.size ≤ g ∧ g < w'.heap.size) w' 1 [.int .i64 y0, .int .i64 y1, .int .u64 y2, .string y3, .slice y4 y5 y6] (lfT 0 0) ∧ Below wx.heap.size wx w') := fun wx hx => by
      have := maps_any keyL ops a1 c1 tp htp k i u s a n c t ho wx (Dt.Rep.below hx _ _ _ hr) (hI1.ints.below hx) (by omega) (hT.below hx) (fun _ _ _ => nameOk_key (hP.below hx))
      rw [ea] at this
      exact this
    have HMB : Hid (∀ wx, Below w.heap.size w wx → ∀ ad' cap', Ints wx ad' (ops ++ more) → Calls Tryz.prog 17 #[.slice ad' (ops.length + more.length) cap', .string tp, .agg #[.int .i64 k, .int .i64 i, .int .u64 u, .string s, .slice a n c]] wx fun e w' => ∃ z0 z1 z2 z3 z4 z5 z6, e = .returned (.agg (rcs er 0 pk pn false z0 z1 z2 z3 z4 z5 z6)) ∧ Dt.Rf (fun g => wx.heap.size ≤ g ∧ g < w'.heap.size) w' 1 [.int .i64 z0, .int .i64 z1, .int .u64 z2, .string z3, .slice z4 z5 z6] (lfT 0 0) ∧ Below wx.heap.size wx w') := fun wx hx ad' cap' hI => by
      have := maps_any keyL (ops ++ more) ad' cap' tp htp k i u s a n c t ho wx (Dt.Rep.below hx _ _ _ hr) hI (by simp; omega) (hT.below hx) (fun _ _ _ => nameOk_key (hP.below hx))
      rw [eb, List.length_append] at this
      exact this
    have HRM : Hid (∀ wx, Below w.heap.size w wx → Calls Tryz.prog 18 #[.slice a1 ops.length c1, .string tp, .agg #[.int .i64 k, .int .i64 i, .int .u64 u, .string s, .slice a n c]] wx fun e w' => ∃ y0 y1 y2 y3 y4 y5 y6, e = .returned (.agg (rcs er 0 pk pn false y0 y1 y2 y3 y4 y5 y6)) ∧ Dt.Rep w' 1 [.int .i64 y0, .int .i64 y1, .int .u64 y2, .string y3, .slice y4 y5 y6] (lfT 0 0) ∧ Below wx.heap.size wx w') := fun wx hx => by
      have := rmaps_any ops a1 c1 tp htp k i u s a n c t ho wx (Dt.Rep.below hx _ _ _ hr) (hI1.ints.below hx) (by omega) (hP.below hx)
      rw [ea] at this
      exact this
    have HI1 := Lib.hid hI1
    have HI2 := Lib.hid hI2
    clear hr hT hP r6 i6 hv ho ea eb
    have hq1 : decide (65535 < (tp.size : Int)) = false := decide_eq_false (by omega)
    have hq2 : decide (65535 < tp.size) = false := decide_eq_false (by omega)
    have hq3 : decide (40 < (ops.length : Int) + (more.length : Int)) = false := decide_eq_false (by omega)
    have hq4 : decide (40 < ops.length + more.length) = false := decide_eq_false (by omega)
    have hq5 : decide (40 < wrap64 ((ops.length : Int) + (more.length : Int))) = false := decide_eq_false (by unfold wrap64; omega)
    go_enter Tryz.func5, Tryz.ntmps5
    go_wp2_with (first
      | (go_at_call 7; refine HV.out.mono ?_; rintro e w1 ⟨rfl, b1⟩; have B1 := B0.trans (b1.mono B0.size); have D1 := D0.step b1; have SA := HI1.out.step B1; have SB := HI2.out.step B1; clear HV)
      | (at_builtin; refine wpList_app rfl _ _ rfl w1.heap.size ad1 cp1 ([] ++ ops) rfl o2 a2 c2 more rfl (SB.step b2) (by simp; omega) b2.size ?_; intro ad2 cp2 w3 o3 b3; have D3 : Bk w3 w.heap.size #[.int .i64 k, .int .i64 i, .int .u64 u, .string s, .slice a n c] 25 := (b3.block _ D1.lt).trans ((b2.block _ D1.lt).trans D1); obtain ⟨d0, d1, d2, d3, d4⟩ := D3.c5)
      | (at_builtin; refine wpList_app rfl _ _ rfl w1.heap.size none 0 [] rfl (Ow.nil w1 _) a1 c1 ops rfl SA (by simp; omega) (Nat.le_refl _) ?_; intro ad1 cp1 w2 o2 b2)
      | fail)
    have b13 := b2.trans b3
    have B3 := B1.trans (b13.mono B1.size)
    have I3 := o3.sl.ints
    rw [List.nil_append] at I3
    clear d0 d1 d2 d3 d4
    refine (HMA.out _ B3).mono ?_
    rintro e w4 ⟨y0, y1, y2, y3, y4, y5, y6, rfl, rf, b4⟩
    have QA := Lib.hid (Dt.Rf.rep _ _ _ rf)
    have D4 := D3.step b4
    have B4 := B3.trans (b4.mono B3.size)
    have I4 := I3.below b4
    clear rf b4 D3 D1 I3 B3
    have b5 := below1 w4 (.cells (rcs er 0 pk pn false y0 y1 y2 y3 y4 y5 y6) 33)
    have M5 := Bk.new w4 (rcs er 0 pk pn false y0 y1 y2 y3 y4 y5 y6) 33
    have D5 := D4.step b5
    have B5 := B4.trans (b5.mono B4.size)
    have I5 := I4.below b5
    have QA5 := Lib.hid (Dt.Rep.below b5 _ _ _ QA.out)
    have lD := D4.lt
    obtain ⟨d0, d1, d2, d3, d4⟩ := D4.c5
    clear QA I4 D4 B4 b5
    go_wp2_with fail
    clear d0 d1 d2 d3 d4 lD
    refine (HMB.out _ B5 _ _ I5).mono ?_
    rintro e w6 ⟨z0, z1, z2, z3, z4, z5, z6, rfl, rf, b6⟩
    have QB := Lib.hid (Dt.Rf.rep _ _ _ rf)
    have QA6 := Lib.hid (Dt.Rep.below b6 _ _ _ QA5.out)
    have D6 := D5.step b6
    have M6 := M5.step b6
    have B6 := B5.trans (b6.mono B5.size)
    clear rf b6 D5 M5 B5 I5 QA5
    obtain ⟨N10, hN10⟩ : ∃ N10, w4.heap.size = N10 := ⟨_, rfl⟩
    rw [hN10] at M6
    obtain ⟨N11, hN11⟩ : ∃ N11, w6.heap.size = N11 := ⟨_, rfl⟩
    have b7 := below1 w6 (.cells (rcs er 0 pk pn false z0 z1 z2 z3 z4 z5 z6) 33)
    have P7 := Bk.new w6 (rcs er 0 pk pn false z0 z1 z2 z3 z4 z5 z6) 33
    rw [hN11] at P7
    have D7 := D6.step b7
    have M7 := M6.step b7
    have B7 := B6.trans (b7.mono B6.size)
    have QA7 := Lib.hid (Dt.Rep.below b7 _ _ _ QA6.out)
    have QB7 := Lib.hid (Dt.Rep.below b7 _ _ _ QB.out)
    clear QA6 QB D6 M6 B6 b7
    go_wp2_with fail
    rw [hN10, hN11] at *
    obtain ⟨W9, hW9⟩ : ∃ W9, W9 = w6.alloc (.cells (rcs er 0 pk pn false z0 z1 z2 z3 z4 z5 z6) 33) := ⟨_, rfl⟩
    rw [← hW9] at QA7 QB7 D7 M7 P7 B7
    simp only [← hW9]
    have B9 := B7
    have KC : Hid (∀ wx, Below W9.heap.size W9 wx → (fun wx => wx.cell? ⟨w.heap.size, 0, none⟩ = some (.int .i64 k) ∧ wx.cell? ⟨w.heap.size, 1, none⟩ = some (.int .i64 i) ∧ wx.cell? ⟨w.heap.size, 2, none⟩ = some (.int .u64 u) ∧ wx.cell? ⟨w.heap.size, 3, none⟩ = some (.string s) ∧ wx.cell? ⟨w.heap.size, 4, none⟩ = some (.slice a n c) ∧ wx.cell? ⟨N10, 0, none⟩ = some (.int .i64 er) ∧ wx.cell? ⟨N10, 1, none⟩ = some (.int .i64 0) ∧ wx.cell? ⟨N10, 2, none⟩ = some (.int .i64 pk) ∧ wx.cell? ⟨N10, 3, none⟩ = some (.int .i64 pn) ∧ wx.cell? ⟨N10, 4, none⟩ = some (.bool false) ∧ wx.cell? ⟨N10, 5, none⟩ = some (.int .i64 y0) ∧ wx.cell? ⟨N10, 6, none⟩ = some (.int .i64 y1) ∧ wx.cell? ⟨N10, 7, none⟩ = some (.int .u64 y2) ∧ wx.cell? ⟨N10, 8, none⟩ = some (.string y3) ∧ wx.cell? ⟨N10, 9, none⟩ = some (.slice y4 y5 y6) ∧ wx.cell? ⟨N11, 0, none⟩ = some (.int .i64 er) ∧ wx.cell? ⟨N11, 1, none⟩ = some (.int .i64 0) ∧ wx.cell? ⟨N11, 2, none⟩ = some (.int .i64 pk) ∧ wx.cell? ⟨N11, 3, none⟩ = some (.int .i64 pn) ∧ wx.cell? ⟨N11, 4, none⟩ = some (.bool false) ∧ wx.cell? ⟨N11, 5, none⟩ = some (.int .i64 z0) ∧ wx.cell? ⟨N11, 6, none⟩ = some (.int .i64 z1) ∧ wx.cell? ⟨N11, 7, none⟩ = some (.int .u64 z2) ∧ wx.cell? ⟨N11, 8, none⟩ = some (.string z3) ∧ wx.cell? ⟨N11, 9, none⟩ = some (.slice z4 z5 z6)) wx) := fun wx hb => by
      obtain ⟨d0, d1, d2, d3, d4⟩ := (D7.step hb).c5
      obtain ⟨f0, f1, f2, f3, f4, f5, f6, f7, f8, f9⟩ := (M7.step hb).c10
      obtain ⟨g0, g1, g2, g3, g4, g5, g6, g7, g8, g9⟩ := (P7.step hb).c10
      exact ⟨d0, d1, d2, d3, d4, f0, f1, f2, f3, f4, f5, f6, f7, f8, f9, g0, g1, g2, g3, g4, g5, g6, g7, g8, g9⟩
    have KR : Hid (∀ wx, Below W9.heap.size W9 wx → Calls Tryz.prog 18 #[.slice a1 ops.length c1, .string tp, .agg #[.int .i64 k, .int .i64 i, .int .u64 u, .string s, .slice a n c]] wx fun e w' => ∃ y0 y1 y2 y3 y4 y5 y6, e = .returned (.agg (rcs er 0 pk pn false y0 y1 y2 y3 y4 y5 y6)) ∧ Dt.Rep w' 1 [.int .i64 y0, .int .i64 y1, .int .u64 y2, .string y3, .slice y4 y5 y6] (lfT 0 0) ∧ Below wx.heap.size wx w') := fun wx hb => HRM.out wx (B9.trans (hb.mono B9.size))
    have KS1 : Hid (∀ wx, Below W9.heap.size W9 wx → ∀ (j0 j1 j2 : Int) (j3 : ByteArray) (j4 : Option Addr) (j5 j6 : Nat), Dt.Rep wx 1 [.int .i64 j0, .int .i64 j1, .int .u64 j2, .string j3, .slice j4 j5 j6] (lfT 0 0) → Calls Tryz.prog 11 #[.agg (rcs er 0 pk pn false y0 y1 y2 y3 y4 y5 y6), .agg (rcs er 0 pk pn false j0 j1 j2 j3 j4 j5 j6)] wx fun e w' => e = .returned (.bool true) ∧ Below wx.heap.size wx w') := fun wx hb j0 j1 j2 j3 j4 j5 j6 hz => rsame_any er pk pn false y0 y1 y2 y3 y4 y5 y6 j0 j1 j2 j3 j4 j5 j6 wx fun wy hy => Dt.sameD _ (lfT 0 0) _ _ _ _ _ _ _ _ _ _ wy (Dt.Rep.below (hb.trans (hy.mono hb.size)) _ _ _ QA7.out) (Dt.Rep.below hy _ _ _ hz)
    have KA : Hid (∀ wx, Below W9.heap.size W9 wx → Calls Tryz.prog 8 #[] wx fun e w' => e = .returned (.bool true) ∧ Below wx.heap.size wx w') := fun wx hb => KA0.out wx (B9.trans (hb.mono B9.size))
    have KS2 : Hid (∀ wx, Below W9.heap.size W9 wx → Calls Tryz.prog 11 #[.agg (rcs er 0 pk pn false z0 z1 z2 z3 z4 z5 z6), .agg (rcs er 0 pk pn false y0 y1 y2 y3 y4 y5 y6)] wx fun e w' => e = .returned (.bool true) ∧ Below wx.heap.size wx w') := fun wx hb => rsame_any er pk pn false z0 z1 z2 z3 z4 z5 z6 y0 y1 y2 y3 y4 y5 y6 wx fun wy hy => Dt.sameD _ (lfT 0 0) _ _ _ _ _ _ _ _ _ _ wy (Dt.Rep.below (hb.trans (hy.mono hb.size)) _ _ _ QB7.out) (Dt.Rep.below (hb.trans (hy.mono hb.size)) _ _ _ QA7.out)
    clear HMA HMB HRM KA0 QA7 QB7 D7 M7 P7 hW9 B7 HI1 HI2 o2 o3 SA SB
    have b0 : Below W9.heap.size W9 W9.drew := (Below.refl _ _).drew
    refine wp_region_held_drew (S := (fun wx => wx.cell? ⟨w.heap.size, 0, none⟩ = some (.int .i64 k) ∧ wx.cell? ⟨w.heap.size, 1, none⟩ = some (.int .i64 i) ∧ wx.cell? ⟨w.heap.size, 2, none⟩ = some (.int .u64 u) ∧ wx.cell? ⟨w.heap.size, 3, none⟩ = some (.string s) ∧ wx.cell? ⟨w.heap.size, 4, none⟩ = some (.slice a n c) ∧ wx.cell? ⟨N10, 0, none⟩ = some (.int .i64 er) ∧ wx.cell? ⟨N10, 1, none⟩ = some (.int .i64 0) ∧ wx.cell? ⟨N10, 2, none⟩ = some (.int .i64 pk) ∧ wx.cell? ⟨N10, 3, none⟩ = some (.int .i64 pn) ∧ wx.cell? ⟨N10, 4, none⟩ = some (.bool false) ∧ wx.cell? ⟨N10, 5, none⟩ = some (.int .i64 y0) ∧ wx.cell? ⟨N10, 6, none⟩ = some (.int .i64 y1) ∧ wx.cell? ⟨N10, 7, none⟩ = some (.int .u64 y2) ∧ wx.cell? ⟨N10, 8, none⟩ = some (.string y3) ∧ wx.cell? ⟨N10, 9, none⟩ = some (.slice y4 y5 y6) ∧ wx.cell? ⟨N11, 0, none⟩ = some (.int .i64 er) ∧ wx.cell? ⟨N11, 1, none⟩ = some (.int .i64 0) ∧ wx.cell? ⟨N11, 2, none⟩ = some (.int .i64 pk) ∧ wx.cell? ⟨N11, 3, none⟩ = some (.int .i64 pn) ∧ wx.cell? ⟨N11, 4, none⟩ = some (.bool false) ∧ wx.cell? ⟨N11, 5, none⟩ = some (.int .i64 z0) ∧ wx.cell? ⟨N11, 6, none⟩ = some (.int .i64 z1) ∧ wx.cell? ⟨N11, 7, none⟩ = some (.int .u64 z2) ∧ wx.cell? ⟨N11, 8, none⟩ = some (.string z3) ∧ wx.cell? ⟨N11, 9, none⟩ = some (.slice z4 z5 z6))) (by kernel_rfl) (KC.out _ b0) (fun hHeld => ?_)
    generalize W9.drew = w1 at *
    refine wpAnyH_take (i := 0) (oi := { dst := some 43, op := Op.load 33 (Operand.tmp 10), type := 33, pos := _, after := #[], guard := none }) (v := ?tr8b6) rfl (by kernel_rfl) (by kernel_rfl) (by kernel_rfl) (fun _ _ _ h => h) (Or.inl ⟨by rfl, ?ur8b6⟩) (by assumption) ?rr8b6
    case ur8b6 => (intro w hSw; (try dsimp only at hSw); go_simp; (try with_reducible rfl))
    simp only [Act.put, List.setIfInBounds_toArray, List.set_cons_zero, List.set_cons_succ]
    refine wpAnyH_take (i := 1) (oi := { dst := some 44, op := Op.move (Operand.tmp 0), type := 43, pos := _, after := #[], guard := none }) (v := ?tr8b7) rfl (by kernel_rfl) (by kernel_rfl) (by kernel_rfl) (fun _ _ _ h => h) (Or.inl ⟨by rfl, ?ur8b7⟩) (by assumption) ?rr8b7
    case ur8b7 => (intro w hSw; (try dsimp only at hSw); go_simp; (try with_reducible rfl))
    simp only [Act.put, List.setIfInBounds_toArray, List.set_cons_zero, List.set_cons_succ]
    refine wpAnyH_take (i := 2) (oi := { dst := some 45, op := Op.move (Operand.tmp 2), type := 9, pos := _, after := #[], guard := none }) (v := ?tr8b8) rfl (by kernel_rfl) (by kernel_rfl) (by kernel_rfl) (fun _ _ _ h => h) (Or.inl ⟨by rfl, ?ur8b8⟩) (by assumption) ?rr8b8
    case ur8b8 => (intro w hSw; (try dsimp only at hSw); go_simp; (try with_reducible rfl))
    simp only [Act.put, List.setIfInBounds_toArray, List.set_cons_zero, List.set_cons_succ]
    refine wpAnyH_take (i := 3) (oi := { dst := some 46, op := Op.load 25 (Operand.tmp 7), type := 25, pos := _, after := #[], guard := none }) (v := ?tr8b9) rfl (by kernel_rfl) (by kernel_rfl) (by kernel_rfl) (fun _ _ _ h => h) (Or.inl ⟨by rfl, ?ur8b9⟩) (by assumption) ?rr8b9
    case ur8b9 => (intro w hSw; (try dsimp only at hSw); go_simp; (try with_reducible rfl))
    simp only [Act.put, List.setIfInBounds_toArray, List.set_cons_zero, List.set_cons_succ]
    refine wpAnyH_ready (rs := [4]) (by kernel_rfl) (by simp) ?_
    refine AllReadyH.cons (o := { dst := some 47, op := Op.call { callee := Callee.value (Operand.func 18), args := #[Operand.tmp 44, Operand.tmp 45, Operand.tmp 46], argTypes := #[43, 9, 25] }, type := 33, pos := _, after := #[{ on := 1, ground := Ground.data }, { on := 2, ground := Ground.data }, { on := 3, ground := Ground.data }], guard := none }) rfl (fun K hK => ?_) AllReadyH.nil
    go_simp
    refine (KR.out _ b0).mono ?_
    rintro e wy7 ⟨j0, j1, j2, j3, j4, j5, j6, rfl, hz, e7⟩
    have HZ := Lib.hid hz
    clear hz
    have b7 := b0.trans (e7.mono b0.size)
    clear e7
    go_wp2_with fail
    refine hK.out _ _ (KC.out _ b7) (fun hH7 => ?_)
    clear hK K
    (try simp only [Act.put, List.setIfInBounds_toArray, List.set_cons_zero, List.set_cons_succ])
    refine wpAnyH_ready (rs := [5]) (by kernel_rfl) (by simp) ?_
    refine AllReadyH.cons (o := { dst := some 48, op := Op.call { callee := Callee.value (Operand.func 11), args := #[Operand.tmp 43, Operand.tmp 47], argTypes := #[33, 33] }, type := 4, pos := _, after := #[{ on := 0, ground := Ground.data }, { on := 4, ground := Ground.data }, { on := 4, ground := Ground.chain }], guard := none }) rfl (fun K hK => ?_) AllReadyH.nil
    go_simp
    refine (KS1.out _ b7 _ _ _ _ _ _ _ HZ.out).mono ?_
    rintro e wy8 ⟨rfl, e8⟩
    have b8 := b7.trans (e8.mono b7.size)
    clear e8
    go_wp2_with fail
    refine hK.out _ _ (KC.out _ b8) (fun hH8 => ?_)
    clear hK K
    (try simp only [Act.put, List.setIfInBounds_toArray, List.set_cons_zero, List.set_cons_succ])
    refine wpAnyH_take (i := 6) (oi := { dst := some 49, op := Op.unOp UnOp.not 4 (Operand.tmp 48), type := 4, pos := _, after := #[{ on := 5, ground := Ground.data }], guard := none }) (v := ?tr8b10) rfl (by kernel_rfl) (by kernel_rfl) (by kernel_rfl) (fun _ _ _ h => h) (Or.inl ⟨by rfl, ?ur8b10⟩) (by assumption) ?rr8b10
    case ur8b10 => (intro w hSw; (try dsimp only at hSw); go_simp; (try with_reducible rfl))
    simp only [Act.put, List.setIfInBounds_toArray, List.set_cons_zero, List.set_cons_succ]
    refine wpAnyH_done (by kernel_rfl) ?_ _
    have KCx := KC.out _ b8
    obtain ⟨d0, d1, d2, d3, d4, f0, f1, f2, f3, f4, f5, f6, f7, f8, f9, g0, g1, g2, g3, g4, g5, g6, g7, g8, g9⟩ := KCx
    go_wp2_with fail
    refine (KS2.out _ b8).mono ?_
    rintro e wf ⟨rfl, ef⟩
    have bf := b8.trans (ef.mono b8.size)
    go_wp2_with fail
    refine (KA.out _ bf).mono ?_
    rintro e wg ⟨rfl, eg⟩
    go_wp2
    go_ret
    exact ⟨rfl, B9.trans ((bf.trans (eg.mono bf.size)).mono B9.size)⟩

end Go.Proofs.YtajagjcfmaggiaaGreatDoor
/- Whatever reads as a Datum is a tree that lies in memory, its bits within 64; no condition. -/
namespace Go.Proofs.YtajagjcfmaggiaaGreatDoor.Dt
open Go.ChangeShapes Go.WideShapes Go.ChangeAt Go.WideMaps Go.WideElems Go.RowKit

theorem list_of {T : Type} (P : Nat → T → Prop) : ∀ (len : Nat), (∀ i, i < len → ∃ t, P i t) → ∃ l : List T, l.length = len ∧ ∀ i t, l[i]? = some t → P i t := by
  intro len
  induction len with
  | zero => intro _; exact ⟨[], rfl, fun i t h => by simp at h⟩
  | succ len ih =>
    intro h
    obtain ⟨l, hl, hp⟩ := ih (fun i hi => h i (by omega))
    obtain ⟨t, ht⟩ := h len (by omega)
    refine ⟨l ++ [t], by simp [hl], fun i t' hi => ?_⟩
    by_cases hlt : i < l.length
    · rw [List.getElem?_append_left hlt] at hi; exact hp i t' hi
    · rw [List.getElem?_append_right (by omega)] at hi
      have h0 : i - l.length = 0 := by
        by_cases h1 : i - l.length = 0
        · exact h1
        · rw [List.getElem?_eq_none (by simp; omega)] at hi; cases hi
      rw [h0] at hi
      simp at hi
      have : i = len := by omega
      subst this; subst hi; exact ht

theorem tcellsN25 : Tryz.prog.cellsOf 25 = 5 := by kernel_rfl
theorem tcellsN3 : Tryz.prog.cellsOf 3 = 1 := by kernel_rfl
theorem tcellsN2 : Tryz.prog.cellsOf 2 = 1 := by kernel_rfl
theorem tcellsN22 : Tryz.prog.cellsOf 22 = 1 := by kernel_rfl
theorem tcellsN9 : Tryz.prog.cellsOf 9 = 1 := by kernel_rfl
theorem tcellsN23 : Tryz.prog.cellsOf 23 = 1 := by kernel_rfl

set_option maxRecDepth 100000 in
theorem rep_of_trod {H : Type} {enc : TypeId × Value → H} {w : World} {base : Nat} {sp : Nat → Bool} {held : Bool} : ∀ (fuel : Nat) (cs : List Value) (x : DataW H × List MemPlace),
    DataW.trod enc Tryz.prog w base sp held fuel 25 cs = some x → ∃ t : Tr fuel, Rep w fuel cs t := by
  intro fuel
  induction fuel with
  | zero => intro cs x h; simp [DataW.trod] at h
  | succ fuel ih =>
    intro cs x h
    obtain ⟨xs, n, hn, -, hlen, hxl, hf⟩ := DataW.trod_struct Tryz.underlying25 h
    have hn' : fuel = n := by omega
    subst hn'
    rw [tcellsN25] at hlen
    match cs, hlen with
    | [c0, c1, c2, c3, c4], _ =>
      have g : ∀ i, i < 5 → ∃ y, xs[i]? = some y := fun i hi => ⟨_, List.getElem?_eq_getElem (by rw [hxl]; exact hi)⟩
      obtain ⟨y0, hy0⟩ := g 0 (by decide)
      obtain ⟨y1, hy1⟩ := g 1 (by decide)
      obtain ⟨y2, hy2⟩ := g 2 (by decide)
      obtain ⟨y3, hy3⟩ := g 3 (by decide)
      obtain ⟨y4, hy4⟩ := g 4 (by decide)
      have h0 : DataW.trod enc Tryz.prog w base sp held fuel 3 (([c0, c1, c2, c3, c4].drop 0).take (Tryz.prog.cellsOf 3)) = some y0 := (hf 0 _ rfl).trans hy0
      rw [tcellsN3] at h0
      have h1 : DataW.trod enc Tryz.prog w base sp held fuel 2 (([c0, c1, c2, c3, c4].drop 1).take (Tryz.prog.cellsOf 2)) = some y1 := (hf 1 _ rfl).trans hy1
      rw [tcellsN2] at h1
      have h2 : DataW.trod enc Tryz.prog w base sp held fuel 22 (([c0, c1, c2, c3, c4].drop 2).take (Tryz.prog.cellsOf 22)) = some y2 := (hf 2 _ rfl).trans hy2
      rw [tcellsN22] at h2
      have h3 : DataW.trod enc Tryz.prog w base sp held fuel 9 (([c0, c1, c2, c3, c4].drop 3).take (Tryz.prog.cellsOf 9)) = some y3 := (hf 3 _ rfl).trans hy3
      rw [tcellsN9] at h3
      have h4 : DataW.trod enc Tryz.prog w base sp held fuel 23 (([c0, c1, c2, c3, c4].drop 4).take (Tryz.prog.cellsOf 23)) = some y4 := (hf 4 _ rfl).trans hy4
      rw [tcellsN23] at h4
      obtain ⟨k, e0, -, -⟩ := DataW.trod_int Tryz.underlying3 h0
      obtain ⟨i, e1, -, -⟩ := DataW.trod_int Tryz.underlying2 h1
      obtain ⟨u, e2, -, -⟩ := DataW.trod_int Tryz.underlying22 h2
      obtain ⟨s, e3, -, hs⟩ := DataW.trod_string Tryz.underlying9 h3
      simp at e0 e1 e2 e3
      subst e0 e1 e2 e3
      rcases DataW.trod_slice Tryz.underlying23 h4 with ⟨e4, -⟩ | ⟨a, len, cap, elems, rest, m, hm, e4, -, -, hlc, hcm, hel, hat, -, -⟩
      · simp at e4
        subst e4
        exact ⟨((k, i, u, s, []) : Int × Int × Int × ByteArray × List (Tr fuel)), none, 0, rfl, hs, Nat.le_refl _, by unfold maxLen; omega, .inl rfl⟩
      · simp at e4
        subst e4
        rw [tcellsN25] at hat
        have kid : ∀ j, j < len → ∃ t : Tr fuel, ∃ v0 v1 v2 v3 v4, w.cell? (a.add (j * 5)) = some v0 ∧ w.cell? ((a.add (j * 5)).add 1) = some v1 ∧ w.cell? ((a.add (j * 5)).add 2) = some v2 ∧ w.cell? ((a.add (j * 5)).add 3) = some v3 ∧ w.cell? ((a.add (j * 5)).add 4) = some v4 ∧ Rep w fuel [v0, v1, v2, v3, v4] t := by
          intro j hj
          have hx := hat j hj
          rw [List.getElem?_eq_getElem (by omega)] at hx
          obtain ⟨cs', hc, ht⟩ := Option.bind_eq_some_iff.1 hx
          obtain ⟨-, hcl, hcc⟩ := World.cells?_some hc
          obtain ⟨t, ht'⟩ := ih cs' _ (DataW.trod_le (by omega) ht)
          match cs', hcl with
          | [v0, v1, v2, v3, v4], _ =>
            exact ⟨t, v0, v1, v2, v3, v4, by simpa [Addr.add] using hcc 0 (by decide), hcc 1 (by decide), hcc 2 (by decide), hcc 3 (by decide), hcc 4 (by decide), ht'⟩
        obtain ⟨ks, hkl, hkp⟩ := list_of _ len kid
        refine ⟨((k, i, u, s, ks) : Int × Int × Int × ByteArray × List (Tr fuel)), some a, cap, ?_, hs, by show ks.length ≤ cap; omega, hcm, ?_⟩
        · show _ = [_, _, _, _, Value.slice (some a) ks.length cap]
          rw [hkl]; rfl
        · cases hks : ks with
          | nil => exact .inl rfl
          | cons t0 ts =>
            right
            have h00 := hkp 0 t0 (by rw [hks]; rfl)
            obtain ⟨b, off, spot⟩ := a
            obtain ⟨v0, _, _, _, _, hc0, _⟩ := h00
            have hspot : spot = none := by simpa [Addr.add] using World.cell?_spot hc0
            subst hspot
            refine ⟨b, off, rfl, fun j t' hj => ?_⟩
            obtain ⟨v0, v1, v2, v3, v4, x0, x1, x2, x3, x4, r⟩ := hkp j t' (by rw [hks]; exact hj)
            simp only [add_plain] at x0 x1 x2 x3 x4
            exact ⟨v0, v1, v2, v3, v4, x0, x1, x2, x3, x4, r⟩
theorem array5 {cs : Array Value} (h : cs.size = 5) : ∃ c0 c1 c2 c3 c4, cs = #[c0, c1, c2, c3, c4] := by
  obtain ⟨l⟩ := cs
  match l, h with
  | [c0, c1, c2, c3, c4], _ => exact ⟨c0, c1, c2, c3, c4, rfl⟩
end Go.Proofs.YtajagjcfmaggiaaGreatDoor.Dt
namespace Go.Proofs.YtajagjcfmaggiaaGreatDoor.Dt
open Go.ChangeShapes Go.WideShapes Go.ChangeAt Go.WideMaps Go.WideElems Go.RowKit
theorem wf64 {u : Int} (h : (Lit.int .u64 u).wf = true) : 0 ≤ u ∧ u < 18446744073709551616 := by
  have hw' : (0 : Int) ≤ u ∧ u ≤ 18446744073709551615 := by simpa [Lit.wf, IntKind.min, IntKind.max, IntKind.bits, IntKind.signed] using h
  omega

set_option maxRecDepth 100000 in
theorem rep64_of_trod {H : Type} {enc : TypeId × Value → H} {w : World} {base : Nat} {sp : Nat → Bool} {held : Bool} : ∀ (fuel : Nat) (cs : List Value) (x : DataW H × List MemPlace),
    DataW.trod enc Tryz.prog w base sp held fuel 25 cs = some x → ∃ t : Tr fuel, Rep w fuel cs t ∧ r64 fuel t := by
  intro fuel
  induction fuel with
  | zero => intro cs x h; simp [DataW.trod] at h
  | succ fuel ih =>
    intro cs x h
    obtain ⟨xs, n, hn, -, hlen, hxl, hf⟩ := DataW.trod_struct Tryz.underlying25 h
    have hn' : fuel = n := by omega
    subst hn'
    rw [tcellsN25] at hlen
    match cs, hlen with
    | [c0, c1, c2, c3, c4], _ =>
      have g : ∀ i, i < 5 → ∃ y, xs[i]? = some y := fun i hi => ⟨_, List.getElem?_eq_getElem (by rw [hxl]; exact hi)⟩
      obtain ⟨y0, hy0⟩ := g 0 (by decide)
      obtain ⟨y1, hy1⟩ := g 1 (by decide)
      obtain ⟨y2, hy2⟩ := g 2 (by decide)
      obtain ⟨y3, hy3⟩ := g 3 (by decide)
      obtain ⟨y4, hy4⟩ := g 4 (by decide)
      have h0 : DataW.trod enc Tryz.prog w base sp held fuel 3 (([c0, c1, c2, c3, c4].drop 0).take (Tryz.prog.cellsOf 3)) = some y0 := (hf 0 _ rfl).trans hy0
      rw [tcellsN3] at h0
      have h1 : DataW.trod enc Tryz.prog w base sp held fuel 2 (([c0, c1, c2, c3, c4].drop 1).take (Tryz.prog.cellsOf 2)) = some y1 := (hf 1 _ rfl).trans hy1
      rw [tcellsN2] at h1
      have h2 : DataW.trod enc Tryz.prog w base sp held fuel 22 (([c0, c1, c2, c3, c4].drop 2).take (Tryz.prog.cellsOf 22)) = some y2 := (hf 2 _ rfl).trans hy2
      rw [tcellsN22] at h2
      have h3 : DataW.trod enc Tryz.prog w base sp held fuel 9 (([c0, c1, c2, c3, c4].drop 3).take (Tryz.prog.cellsOf 9)) = some y3 := (hf 3 _ rfl).trans hy3
      rw [tcellsN9] at h3
      have h4 : DataW.trod enc Tryz.prog w base sp held fuel 23 (([c0, c1, c2, c3, c4].drop 4).take (Tryz.prog.cellsOf 23)) = some y4 := (hf 4 _ rfl).trans hy4
      rw [tcellsN23] at h4
      obtain ⟨k, e0, -, -⟩ := DataW.trod_int Tryz.underlying3 h0
      obtain ⟨i, e1, -, -⟩ := DataW.trod_int Tryz.underlying2 h1
      obtain ⟨u, e2, -, hu⟩ := DataW.trod_int Tryz.underlying22 h2
      obtain ⟨s, e3, -, hs⟩ := DataW.trod_string Tryz.underlying9 h3
      have hu6 := wf64 hu
      simp at e0 e1 e2 e3
      subst e0 e1 e2 e3
      rcases DataW.trod_slice Tryz.underlying23 h4 with ⟨e4, -⟩ | ⟨a, len, cap, elems, rest, m, hm, e4, -, -, hlc, hcm, hel, hat, -, -⟩
      · simp at e4
        subst e4
        exact ⟨((k, i, u, s, []) : Int × Int × Int × ByteArray × List (Tr fuel)), ⟨none, 0, rfl, hs, Nat.le_refl _, by unfold maxLen; omega, .inl rfl⟩, hu6, fun _ h => by cases h⟩
      · simp at e4
        subst e4
        rw [tcellsN25] at hat
        have kid : ∀ j, j < len → ∃ t : Tr fuel, ∃ v0 v1 v2 v3 v4, w.cell? (a.add (j * 5)) = some v0 ∧ w.cell? ((a.add (j * 5)).add 1) = some v1 ∧ w.cell? ((a.add (j * 5)).add 2) = some v2 ∧ w.cell? ((a.add (j * 5)).add 3) = some v3 ∧ w.cell? ((a.add (j * 5)).add 4) = some v4 ∧ Rep w fuel [v0, v1, v2, v3, v4] t ∧ r64 fuel t := by
          intro j hj
          have hx := hat j hj
          rw [List.getElem?_eq_getElem (by omega)] at hx
          obtain ⟨cs', hc, ht⟩ := Option.bind_eq_some_iff.1 hx
          obtain ⟨-, hcl, hcc⟩ := World.cells?_some hc
          obtain ⟨t, ht'⟩ := ih cs' _ (DataW.trod_le (by omega) ht)
          match cs', hcl with
          | [v0, v1, v2, v3, v4], _ =>
            exact ⟨t, v0, v1, v2, v3, v4, by simpa [Addr.add] using hcc 0 (by decide), hcc 1 (by decide), hcc 2 (by decide), hcc 3 (by decide), hcc 4 (by decide), ht'⟩
        obtain ⟨ks, hkl, hkp⟩ := list_of _ len kid
        refine ⟨((k, i, u, s, ks) : Int × Int × Int × ByteArray × List (Tr fuel)), ⟨some a, cap, ?_, hs, by show ks.length ≤ cap; omega, hcm, ?_⟩, hu6, fun t' ht' => ?_⟩
        · show _ = [_, _, _, _, Value.slice (some a) ks.length cap]
          rw [hkl]; rfl
        · cases hks : ks with
          | nil => exact .inl rfl
          | cons t0 ts =>
            right
            have h00 := hkp 0 t0 (by rw [hks]; rfl)
            obtain ⟨b, off, spot⟩ := a
            obtain ⟨v0, _, _, _, _, hc0, _⟩ := h00
            have hspot : spot = none := by simpa [Addr.add] using World.cell?_spot hc0
            subst hspot
            refine ⟨b, off, rfl, fun j t' hj => ?_⟩
            obtain ⟨v0, v1, v2, v3, v4, x0, x1, x2, x3, x4, r, -⟩ := hkp j t' (by rw [hks]; exact hj)
            simp only [add_plain] at x0 x1 x2 x3 x4
            exact ⟨v0, v1, v2, v3, v4, x0, x1, x2, x3, x4, r⟩
        · obtain ⟨j, hj⟩ := List.mem_iff_getElem?.1 ht'
          obtain ⟨_, _, _, _, _, _, _, _, _, _, _, h⟩ := hkp j t' hj
          exact h
end Go.Proofs.YtajagjcfmaggiaaGreatDoor.Dt
/- A value, and a row of numbers, as they read; no condition but those that each theorem names. -/
namespace Go.Proofs.YtajagjcfmaggiaaGreatDoor.Dt
open Go.RowKit

theorem add_plain (b o i : Nat) : (⟨b, o, none⟩ : Addr).add i = ⟨b, o + i, none⟩ := by simp [Addr.add]
theorem wfi {i : Int} (h : (Lit.int .i64 i).wf = true) : I64 i := by
  have hw' : (-9223372036854775808 : Int) ≤ i ∧ i ≤ 9223372036854775807 := by simpa [Lit.wf, IntKind.min, IntKind.max, IntKind.bits, IntKind.signed] using h
  exact hw'
set_option maxRecDepth 100000 in
theorem q64_of_trod {H : Type} {enc : TypeId × Value → H} {w : World} {base : Nat} {sp : Nat → Bool} {held : Bool} : ∀ (fuel : Nat) (cs : List Value) (x : DataW H × List MemPlace),
    DataW.trod enc Tryz.prog w base sp held fuel 25 cs = some x → ∃ t : Tr fuel, Rep w fuel cs t ∧ r64 fuel t ∧ i64A fuel t := by
  intro fuel
  induction fuel with
  | zero => intro cs x h; simp [DataW.trod] at h
  | succ fuel ih =>
    intro cs x h
    obtain ⟨xs, n, hn, -, hlen, hxl, hf⟩ := DataW.trod_struct Tryz.underlying25 h
    have hn' : fuel = n := by omega
    subst hn'
    rw [tcellsN25] at hlen
    match cs, hlen with
    | [c0, c1, c2, c3, c4], _ =>
      have g : ∀ i, i < 5 → ∃ y, xs[i]? = some y := fun i hi => ⟨_, List.getElem?_eq_getElem (by rw [hxl]; exact hi)⟩
      obtain ⟨y0, hy0⟩ := g 0 (by decide)
      obtain ⟨y1, hy1⟩ := g 1 (by decide)
      obtain ⟨y2, hy2⟩ := g 2 (by decide)
      obtain ⟨y3, hy3⟩ := g 3 (by decide)
      obtain ⟨y4, hy4⟩ := g 4 (by decide)
      have h0 : DataW.trod enc Tryz.prog w base sp held fuel 3 (([c0, c1, c2, c3, c4].drop 0).take (Tryz.prog.cellsOf 3)) = some y0 := (hf 0 _ rfl).trans hy0
      rw [tcellsN3] at h0
      have h1 : DataW.trod enc Tryz.prog w base sp held fuel 2 (([c0, c1, c2, c3, c4].drop 1).take (Tryz.prog.cellsOf 2)) = some y1 := (hf 1 _ rfl).trans hy1
      rw [tcellsN2] at h1
      have h2 : DataW.trod enc Tryz.prog w base sp held fuel 22 (([c0, c1, c2, c3, c4].drop 2).take (Tryz.prog.cellsOf 22)) = some y2 := (hf 2 _ rfl).trans hy2
      rw [tcellsN22] at h2
      have h3 : DataW.trod enc Tryz.prog w base sp held fuel 9 (([c0, c1, c2, c3, c4].drop 3).take (Tryz.prog.cellsOf 9)) = some y3 := (hf 3 _ rfl).trans hy3
      rw [tcellsN9] at h3
      have h4 : DataW.trod enc Tryz.prog w base sp held fuel 23 (([c0, c1, c2, c3, c4].drop 4).take (Tryz.prog.cellsOf 23)) = some y4 := (hf 4 _ rfl).trans hy4
      rw [tcellsN23] at h4
      obtain ⟨k, e0, -, -⟩ := DataW.trod_int Tryz.underlying3 h0
      obtain ⟨i, e1, -, hi⟩ := DataW.trod_int Tryz.underlying2 h1
      obtain ⟨u, e2, -, hu⟩ := DataW.trod_int Tryz.underlying22 h2
      obtain ⟨s, e3, -, hs⟩ := DataW.trod_string Tryz.underlying9 h3
      have hu6 := wf64 hu
      have hi6 := wfi hi
      simp at e0 e1 e2 e3
      subst e0 e1 e2 e3
      rcases DataW.trod_slice Tryz.underlying23 h4 with ⟨e4, -⟩ | ⟨a, len, cap, elems, rest, m, hm, e4, -, -, hlc, hcm, hel, hat, -, -⟩
      · simp at e4
        subst e4
        exact ⟨((k, i, u, s, []) : Int × Int × Int × ByteArray × List (Tr fuel)), ⟨none, 0, rfl, hs, Nat.le_refl _, by unfold maxLen; omega, .inl rfl⟩, ⟨hu6, fun _ h => by cases h⟩, hi6, fun _ h => by cases h⟩
      · simp at e4
        subst e4
        rw [tcellsN25] at hat
        have kid : ∀ j, j < len → ∃ t : Tr fuel, ∃ v0 v1 v2 v3 v4, w.cell? (a.add (j * 5)) = some v0 ∧ w.cell? ((a.add (j * 5)).add 1) = some v1 ∧ w.cell? ((a.add (j * 5)).add 2) = some v2 ∧ w.cell? ((a.add (j * 5)).add 3) = some v3 ∧ w.cell? ((a.add (j * 5)).add 4) = some v4 ∧ Rep w fuel [v0, v1, v2, v3, v4] t ∧ r64 fuel t ∧ i64A fuel t := by
          intro j hj
          have hx := hat j hj
          rw [List.getElem?_eq_getElem (by omega)] at hx
          obtain ⟨cs', hc, ht⟩ := Option.bind_eq_some_iff.1 hx
          obtain ⟨-, hcl, hcc⟩ := World.cells?_some hc
          obtain ⟨t, ht'⟩ := ih cs' _ (DataW.trod_le (by omega) ht)
          match cs', hcl with
          | [v0, v1, v2, v3, v4], _ =>
            exact ⟨t, v0, v1, v2, v3, v4, by simpa [Addr.add] using hcc 0 (by decide), hcc 1 (by decide), hcc 2 (by decide), hcc 3 (by decide), hcc 4 (by decide), ht'⟩
        obtain ⟨ks, hkl, hkp⟩ := list_of _ len kid
        refine ⟨((k, i, u, s, ks) : Int × Int × Int × ByteArray × List (Tr fuel)), ⟨some a, cap, ?_, hs, by show ks.length ≤ cap; omega, hcm, ?_⟩, ⟨hu6, fun t' ht' => ?_⟩, hi6, fun t' ht' => ?_⟩
        · show _ = [_, _, _, _, Value.slice (some a) ks.length cap]
          rw [hkl]; rfl
        · cases hks : ks with
          | nil => exact .inl rfl
          | cons t0 ts =>
            right
            have h00 := hkp 0 t0 (by rw [hks]; rfl)
            obtain ⟨b, off, spot⟩ := a
            obtain ⟨v0, _, _, _, _, hc0, _⟩ := h00
            have hspot : spot = none := by simpa [Addr.add] using World.cell?_spot hc0
            subst hspot
            refine ⟨b, off, rfl, fun j t' hj => ?_⟩
            obtain ⟨v0, v1, v2, v3, v4, x0, x1, x2, x3, x4, r, -⟩ := hkp j t' (by rw [hks]; exact hj)
            simp only [add_plain] at x0 x1 x2 x3 x4
            exact ⟨v0, v1, v2, v3, v4, x0, x1, x2, x3, x4, r⟩
        · obtain ⟨j, hj⟩ := List.mem_iff_getElem?.1 ht'
          obtain ⟨_, _, _, _, _, _, _, _, _, _, _, h⟩ := hkp j t' hj
          exact h.1
        · obtain ⟨j, hj⟩ := List.mem_iff_getElem?.1 ht'
          obtain ⟨_, _, _, _, _, _, _, _, _, _, _, h⟩ := hkp j t' hj
          exact h.2
end Go.Proofs.YtajagjcfmaggiaaGreatDoor.Dt

namespace Go.Proofs.YtajagjcfmaggiaaGreatDoor
open Go.ChangeShapes Go.WideShapes Go.ChangeAt Go.WideMaps Go.WideElems Go.RowKit Go.Joins
theorem ints_of {H : Type} {enc : TypeId × Value → H} {W : World} {base : Nat} {spare : Nat → Bool} {held : Bool} {f : Nat} {v : Value} {x : DataW H × List MemPlace} (h : DataW.trod enc Tryz.prog W base spare held f 43 [v] = some x) :
    ∃ ad cap l, v = .slice ad (List.length l) cap ∧ l.length ≤ cap ∧ cap ≤ maxLen ∧ (ad = none → cap = 0) ∧ Ints W ad l ∧ ((x.1 = .nil ∧ l = []) ∨ ∃ e s, x.1 = .slice e s ∧ e.length = l.length) := by
  rcases open_ints Tryz.underlying43 Tryz.underlying3 (show Tryz.prog.cellsOf 3 = 1 by kernel_rfl) h with ⟨hcs, hx⟩ | ⟨a, len', cap', zs, hcs, _, hl, hm, hz, hx, hcell, hwz⟩
  · simp only [List.cons.injEq, and_true] at hcs
    exact ⟨none, 0, [], hcs, Nat.zero_le _, Nat.zero_le _, fun _ => rfl, .inl rfl, .inl ⟨by rw [hx], rfl⟩⟩
  · simp only [List.cons.injEq, and_true] at hcs
    have hlen : len' ≤ zs.length := by rw [hz]; split <;> omega
    have htl : (zs.take len').length = len' := by rw [List.length_take]; omega
    refine ⟨some a, cap', zs.take len', by rw [htl]; exact hcs, by omega, hm, (fun e => nomatch e), ?_, .inr ⟨_, _, by rw [hx], by simp [lits]⟩⟩
    by_cases h0 : len' = 0
    · left; simp [h0]
    · right
      obtain ⟨b, off, rfl, hb⟩ := ints_at hcell (by omega)
      refine ⟨b, off, rfl, fun j y hj => ?_⟩
      have hjl : j < (zs.take len').length := (List.getElem?_eq_some_iff.1 hj).1
      rw [htl] at hjl
      rw [hb j (by omega)]
      rw [List.getElem?_take_of_lt hjl] at hj
      rw [List.getD_eq_getElem?_getD, hj]
      rfl
end Go.Proofs.YtajagjcfmaggiaaGreatDoor
