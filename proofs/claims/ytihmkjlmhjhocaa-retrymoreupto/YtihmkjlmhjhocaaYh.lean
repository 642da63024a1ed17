/- Rows of results put together; more tries, more places behind: the same; the conditions: what lies in memory. -/
import Derived.Test.YtihmkjlmhjhocaaYg
import Derived.Deep.AppendLies
import Derived.Deep.AppendSrc
namespace Go.Proofs.Ytihmkjlmhjhocaa
open Go.RowKit

/-- The cells of a row. -/
def fl (zs : List Re) : List Value := zs.flatMap fun x => x.cs.toList
theorem fl_app (zs ys : List Re) : fl (zs ++ ys) = fl zs ++ fl ys := by simp [fl]
theorem fl_len (zs : List Re) : (fl zs).length = zs.length * 10 := by
  induction zs with
  | nil => rfl
  | cons x zs ih => simp [fl] at ih ⊢; omega
theorem fl_at (zs : List Re) : ∀ (j q : Nat) (x : Re), q < 10 → zs[j]? = some x → (fl zs)[j * 10 + q]? = x.cs[q]? := by
  induction zs with
  | nil => intro j q x _ h; simp at h
  | cons y zs ih =>
    intro j q x hq h
    have e : fl (y :: zs) = y.cs.toList ++ fl zs := rfl
    have hl : y.cs.toList.length = 10 := rfl
    rw [e]
    cases j with
    | zero =>
      simp at h
      subst h
      rw [List.getElem?_append_left (by omega)]
      simp
    | succ j =>
      rw [List.getElem?_append_right (by omega)]
      have : (j + 1) * 10 + q - y.cs.toList.length = j * 10 + q := by omega
      rw [this]
      exact ih j q x hq (by simpa using h)
theorem fl_one (zs : List Re) : ∀ u ∈ fl zs, u.oneCell' = true := by
  intro u hu
  obtain ⟨x, -, hx⟩ := List.mem_flatMap.1 hu
  simp at hx
  rcases hx with rfl | rfl | rfl | rfl | rfl | rfl | rfl | rfl | rfl | rfl <;> rfl
theorem add_fl (b o n : Nat) : (⟨b, o, none⟩ : Addr).add n = ⟨b, o + n, none⟩ := by unfold Addr.add; split <;> simp_all
theorem at_q {w : World} {b o : Nat} {x : Re} (h : ReAt w b o x) (q : Nat) (hq : q < 10) : w.cell? ⟨b, o + q, none⟩ = x.cs[q]? := by
  obtain ⟨x0, x1, x2, x3, x4, x5, x6, x7, x8, x9⟩ := h
  match q, hq with
  | 0, _ => exact x0
  | 1, _ => exact x1
  | 2, _ => exact x2
  | 3, _ => exact x3
  | 4, _ => exact x4
  | 5, _ => exact x5
  | 6, _ => exact x6
  | 7, _ => exact x7
  | 8, _ => exact x8
  | 9, _ => exact x9
theorem fl_cells {w : World} {b o : Nat} {zs : List Re} (h : ∀ j x, zs[j]? = some x → ReAt w b (o + j * 10) x) : ∀ j u, (fl zs)[j]? = some u → w.cell? ((⟨b, o, none⟩ : Addr).add j) = some u := by
  intro j u hu
  have hj : j < zs.length * 10 := by rw [← fl_len]; exact (List.getElem?_eq_some_iff.1 hu).1
  have hd : j / 10 < zs.length := by omega
  have e := fl_at zs (j / 10) (j % 10) zs[j / 10] (by omega) (List.getElem?_eq_getElem hd)
  have hm : j / 10 * 10 + j % 10 = j := by omega
  rw [hm, hu] at e
  rw [add_fl]
  have := at_q (h (j / 10) _ (List.getElem?_eq_getElem hd)) (j % 10) (by omega)
  rw [show o + j / 10 * 10 + j % 10 = o + j by omega] at this
  rw [this, e]
theorem row_of_fl {w : World} {L g cap : Nat} {zs : List Re} (h : w.ownsRow L 30 10 (.slice (some ⟨g, 0, none⟩) zs.length cap) zs.length (fl zs)) (hg : g < w.heap.size) : Rrow w (some ⟨g, 0, none⟩) zs := by
  refine .inr ⟨g, 0, rfl, hg, fun j x hj => ?_⟩
  have c : ∀ q, q < 10 → w.cell? ⟨g, 0 + j * 10 + q, none⟩ = x.cs[q]? := fun q hq => by
    have e := fl_at zs j q x hq hj
    rw [Array.getElem?_eq_getElem (by simpa using hq)] at e ⊢
    have := h.cells (g := g) rfl _ _ e
    rw [add_fl] at this
    rw [show 0 + j * 10 + q = 0 + (j * 10 + q) by omega]
    exact this
  exact ⟨c 0 (by decide), c 1 (by decide), c 2 (by decide), c 3 (by decide), c 4 (by decide), c 5 (by decide), c 6 (by decide), c 7 (by decide), c 8 (by decide), c 9 (by decide)⟩

theorem run_append_none {P : Program} (w : World) (t ty e : TypeId) (i : TypeInfo) (ht : P.underlying t = some (.slice e)) (hi : P.info? e = some i) (g n cap : Nat) (hc : n ≤ cap) (X : Option Addr) (c : Nat) :
    (Builtin.append_ #[t, t] ty #[.slice (some ⟨g, 0, none⟩) n cap, .slice X 0 c]).run P w = .ok (.slice (some ⟨g, 0, none⟩) n cap) w := by
  have hs : Src P i.size t (.slice X 0 c) 0 [] w := by
    cases X with
    | none => exact Src.ofNil w ht c
    | some a => exact Src.ofSlice w ht a 0 c [] (by simp) (by simp) (by simp)
  have := run_append_room_src w t t ty e i ht hi g 0 n cap (.slice X 0 c) 0 [] hs (by omega) (by simp) (by simp)
  rw [this]
  rfl
theorem wpList_append_none {P : Program} {w : World} {ops : Array Oper} {rest : List Oper} {o : Oper} {a : Act} {Q : Exit → Act → World → Prop} (hgd : o.guard = none) (s x : Operand) (t : TypeId)
    (ho : o.op = .call { callee := .builtin .append, args := #[s, x], argTypes := #[t, t] })
    (e : TypeId) (i : TypeInfo) (ht : P.underlying t = some (.slice e)) (hi : P.info? e = some i) (g n cap : Nat) (hs : a.eval s = .slice (some ⟨g, 0, none⟩) n cap) (hc : n ≤ cap)
    (X : Option Addr) (c : Nat) (hx : a.eval x = .slice X 0 c) (h : wpList P ops Q rest (a.put o.dst (.slice (some ⟨g, 0, none⟩) n cap)) w) : wpList P ops Q (o :: rest) a w :=
  wpList_plain hgd fun _ hK => by
    have hr := run_append_none (P := P) w t o.type e i ht hi g n cap hc X c
    unfold Oper.wp execOp
    simp only [ho, resolve, invoke, builtin, Sem.run_bind, Sem.run_pure, Result.andThen_ok, List.map_toArray, List.map_cons, List.map_nil, hs, hx, hr]
    exact hK _ _ h

theorem infoRes_q : (Try.prog.info? 30).map (fun i => (i.zero, i.size, i.bytes)) = some (some (.agg Re.zero.cs), 10, 104) := by kernel_rfl
theorem infoRes_p : ∃ i0, Try.prog.info? 30 = some i0 ∧ i0.zero = some (.agg Re.zero.cs) ∧ i0.size = 10 ∧ i0.bytes = 104 := by
  obtain ⟨i0, h, e⟩ := Option.map_eq_some_iff.1 infoRes_q
  simp only [Prod.mk.injEq] at e
  exact ⟨i0, h, e.1, e.2.1, e.2.2⟩

theorem md_one {M : Nat} {zs : List Re} {m m' : Nat} {x x' : Re} (h : Md M zs m x) (h' : Md M zs m' x') : m = m' ∧ x = x' := by
  have key : ∀ {a b : Nat} {y z : Re}, Md M zs a y → Md M zs b z → ¬ a < b := fun {a b y z} ha hb hlt => by
    have := hb.le
    rcases ha.fin with e | ⟨h0, e⟩
    · omega
    · have hl := ha.last h0
      have := hb.ahead (a - 1) y (by omega) hl
      rw [e] at this
      cases this
  have e : m = m' := by
    have := key h h'
    have := key h' h
    omega
  subst e
  refine ⟨rfl, ?_⟩
  rcases Nat.eq_zero_or_pos m with h0 | h0
  · rw [h.zero h0, h'.zero h0]
  · have := h.last h0
    rw [h'.last h0] at this
    exact (Option.some.inj this).symm
theorem md_more {t t' : Int} {zs ys : List Re} {m : Nat} {x : Re} (h : Md (most t zs.length) zs m x) (hx : x.ag = false) (h0 : 0 < m) : Md (most (max t t') (zs ++ ys).length) (zs ++ ys) m x := by
  have hle := h.le
  have hl := h.last h0
  unfold most at hle
  refine ⟨by unfold most; rw [List.length_append]; omega, fun j y hj hy => h.ahead j y hj ?_, .inr ⟨h0, hx⟩, fun e => by omega, fun _ => ?_⟩
  · rwa [List.getElem?_append_left (by omega)] at hy
  · rw [List.getElem?_append_left (by omega)]; exact hl

theorem run_trees (tries : Int) (ad : Option Addr) (zs : List Re) (cap : Nat) (w wx : World) (f : Re → (n : Nat) × Dt.Tr n) (hreach : zs.length ≤ 9223372036854775807) (hcap : zs.length ≤ cap) (hI : Rrow wx ad zs) (hx : Below w.heap.size w wx) (hB : ∀ x ∈ zs, Bt w x (f x).1 (f x).2 ∧ (Dt.pts (f x).1 (f x).2).1 ≤ 4096) :
    Calls Try.prog 12 #[.int .i64 tries, .slice ad zs.length cap] wx fun e w' => ∃ m x k i u s a n c, Md (most tries zs.length) zs m x ∧ e = .returned (.tuple #[.agg #[.int .i64 x.er, .int .i64 x.co, .int .i64 x.pk, .int .i64 x.pn, .bool x.has, .int .i64 k, .int .i64 i, .int .u64 u, .string s, .slice a n c], .int .i64 m]) ∧ (x ∈ zs → Dt.Rep w' (f x).1 [.int .i64 k, .int .i64 i, .int .u64 u, .string s, .slice a n c] (f x).2) ∧ Below wx.heap.size wx w' := by
  refine (run_any tries ad zs cap wx hreach hcap hI (fun x k i u s a n c L w' => x ∈ zs → Dt.Rf (fun g => L ≤ g ∧ g < w'.heap.size) w' (f x).1 [.int .i64 k, .int .i64 i, .int .u64 u, .string s, .slice a n c] (f x).2) (fun x k i u s a n c L w' w'' h hs hg hx => Dt.Rf.to (fun g h => ⟨⟨h.1, by have := h.2; omega⟩, hg g h.1 h.2⟩) _ _ _ (h hx)) fun x hxm wy hy => ?_).mono fun e w' ⟨m, x, k, i, u, s, a, n, c, L, h1, h2, _, h4, h5⟩ => ⟨m, x, k, i, u, s, a, n, c, h1, h2, fun hm => Dt.Rf.rep _ _ _ (h4 hm), h5⟩
  have hwy : Below w.heap.size w wy := hx.trans (hy.mono hx.size)
  by_cases hm : x ∈ zs
  · obtain ⟨R, hp⟩ := hB x hm
    exact (Dt.vcopy _ _ _ _ _ _ _ wy (Dt.Rep.below hwy _ _ _ R) hp).mono fun e w' ⟨k, i, u, s, a, n, c, he, hr, hb⟩ => ⟨k, i, u, s, a, n, c, he, fun _ => hr, hb⟩
  · rcases hxm with h | rfl
    · exact absurd h hm
    · exact (copy_leaf _ _ _ _ _ _ _).mono fun e w' ⟨he, hb⟩ => ⟨_, _, _, _, _, _, _, he, fun h => absurd h hm, hb⟩
theorem trees_of {w : World} {zs : List Re} (h : ∀ x ∈ zs, ∃ (n : Nat) (t : Dt.Tr n), Bt w x n t ∧ (Dt.pts n t).1 ≤ 4096) : ∃ f : Re → (n : Nat) × Dt.Tr n, ∀ x ∈ zs, Bt w x (f x).1 (f x).2 ∧ (Dt.pts (f x).1 (f x).2).1 ≤ 4096 := by
  have H : ∀ x : Re, ∃ p : (n : Nat) × Dt.Tr n, x ∈ zs → Bt w x p.1 p.2 ∧ (Dt.pts p.1 p.2).1 ≤ 4096 := fun x => by
    by_cases hx : x ∈ zs
    · obtain ⟨n, t, R⟩ := h x hx
      exact ⟨⟨n, t⟩, fun _ => R⟩
    · exact ⟨⟨1, zT⟩, fun h => absurd h hx⟩
  exact Classical.skolem.1 H
end Go.Proofs.Ytihmkjlmhjhocaa
