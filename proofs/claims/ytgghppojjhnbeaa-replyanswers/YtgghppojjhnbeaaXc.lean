/- The document's Answer and Expire, walked; the conditions that each theorem names. -/
import Derived.Test.YtgghppojjhnbeaaXb
namespace Go.Proofs.Ytgghppojjhnbeaa
open Go.RowKit

/-- What an append to a row of one's own makes: the row itself, or one in new memory. -/
theorem run_append_near {P : Program} (w : World) (base : Nat) (t ty e : TypeId) (i : TypeInfo) (z : Value) (size bytes : Nat) (ht : P.underlying t = some (.slice e)) (hi : P.info? e = some i) (hz : i.zero = some z)
    (hsize : i.size = size) (hby : i.bytes = bytes) (hzs : z.cells.size = size) (hsz : 0 < size)
    (v : Value) (n : Nat) (xs : List Value) (hown : w.ownsRow base e size v n xs)
    (a : Addr) (m c : Nat) (news : List Value) (hl : news.length = m * size) (hnews : ∀ j u, news[j]? = some u → w.cell? (a.add j) = some u) (h1 : ∀ u ∈ news, u.oneCell' = true)
    (h63 : n + m ≤ maxLen) (hbytes : (n + m) * bytes ≤ 140737488355328) (hbase : base ≤ w.heap.size) :
    ∃ v' w', (Builtin.append_ #[t, t] ty #[v, .slice (some a) m c]).run P w = .ok v' w' ∧ w'.ownsRow base e size v' (n + m) (xs ++ news) ∧ w.grownBy w' v.ownBlock ∧ (v'.ownBlock = v.ownBlock ∨ ∃ g, v'.ownBlock = some g ∧ w.heap.size ≤ g) := by
  obtain ⟨v', w', hrun, r1, r2, -⟩ := run_append_own (P := P) w base t ty e i z size bytes ht hi hz hsize hby hzs hsz v n xs hown a m c news hl hnews h1 h63 hbytes hbase
  refine ⟨v', w', hrun, r1, r2, ?_⟩
  subst hsize
  subst hby
  rcases hown.2 with ⟨rfl, rfl⟩ | ⟨g, cap, cur, rfl, hbg, hg, hnc, hcm, hcs, htake⟩
  · obtain ⟨v2, w2, hrun2, q1, q2, -⟩ := run_append_own (P := P) w w.heap.size t ty e i z i.size i.bytes ht hi hz rfl rfl hzs hsz (.slice none 0 0) 0 xs ⟨hown.1, .inl ⟨rfl, rfl⟩⟩ a m c news hl hnews h1 h63 hbytes (Nat.le_refl _)
    rw [hrun] at hrun2
    obtain ⟨rfl, rfl⟩ : v' = v2 ∧ w' = w2 := by injection hrun2 with e1 e2; exact ⟨e1, e2⟩
    cases ho : v'.ownBlock with
    | none => exact .inl rfl
    | some g => exact .inr ⟨g, rfl, (q1.lt g ho).1⟩
  · by_cases hroom : n + m ≤ cap
    · have hfit : n * i.size + news.length ≤ cur.size := by rw [hl, hcs, ← Nat.add_mul]; exact Nat.mul_le_mul_right _ hroom
      have hr := run_append_room (P := P) w t ty e i ht hi g n cap cur hg a m c news hl hnews h1 hroom hfit
      rw [hrun] at hr
      injection hr with e1 e2
      rw [e1]
      exact .inl rfl
    · have hsmall : n + m ≤ 9223372036854775807 := by simp only [maxLen] at h63; omega
      have holds : ∀ j u, xs[j]? = some u → w.cell? ((⟨g, 0, none⟩ : Addr).add j) = some u := hown.cells (g := g) rfl
      have hr := run_append_grow (P := P) w t ty e i z ht hi hz ⟨g, 0, none⟩ n cap xs hown.1 holds a m c news hl hnews (by omega) (by omega) (growslice_fits (by omega) hbytes)
      rw [hrun] at hr
      injection hr with e1 e2
      rw [e1]
      exact .inr ⟨_, rfl, Nat.le_refl _⟩


theorem wpList_append_near {P : Program} (w : World) {ops : Array Oper} {rest : List Oper} {o : Oper} {a : Act} {Q : Exit → Act → World → Prop}
    (hg : o.guard = none) (s x : Operand) (t : TypeId) (hop : o.op = Op.call { callee := Callee.builtin Builtin.append, args := #[s, x], argTypes := #[t, t] })
    (base : Nat) (e : TypeId) (i : TypeInfo) (z : Value) (size bytes : Nat) (h1 : P.underlying t = some (.slice e)) (h2 : P.info? e = some i) (h3 : i.zero = some z) (h4 : i.size = size) (h5 : i.bytes = bytes) (h6 : z.cells.size = size) (h7 : 0 < size)
    (v : Value) (k : Nat) (xs : List Value) (hs : a.eval s = v) (hown : w.ownsRow base e size v k xs) (ad : Addr) (m c : Nat) (news : List Value) (hx : a.eval x = .slice (some ad) m c) (hn : news.length = m * size)
    (hc : ∀ j u, news[j]? = some u → w.cell? (ad.add j) = some u) (h1c : ∀ u ∈ news, u.oneCell' = true) (b1 : k + m ≤ maxLen) (b2 : (k + m) * bytes ≤ 140737488355328) (b3 : base ≤ w.heap.size)
    (hK : ∀ v' w', w'.ownsRow base e size v' (k + m) (xs ++ news) → w.grownBy w' v.ownBlock → (v'.ownBlock = v.ownBlock ∨ ∃ g, v'.ownBlock = some g ∧ w.heap.size ≤ g) → wpList P ops Q rest (a.put o.dst v') w') :
    wpList P ops Q (o :: rest) a w := by
  refine wpList_plain hg fun K hK' => ?_
  obtain ⟨v', w', hrun, r1, r2, r3⟩ := run_append_near (P := P) w base t o.type e i z size bytes h1 h2 h3 h4 h5 h6 h7 v k xs hown ad m c news hn hc h1c b1 b2 b3
  unfold Oper.wp execOp
  simp only [hop, resolve, invoke, builtin, Sem.run_bind, Sem.run_pure, Result.andThen_ok, List.map_toArray, List.map_cons, List.map_nil, hs, hx, hrun]
  exact hK' _ _ (hK v' w' r1 r2 r3)

/-- On its way: the state's box, the result's, the box of what is left, its row, and a row beside it. -/
structure Ow (N : Nat) (nx : Int) (sc : Array Value) (sv gv : Value) (p q : List Ak) (w wx : World) : Prop where
  below : Below N w wx
  sz : N + 3 ≤ wx.heap.size
  st : Bk wx N sc 24
  r : Bk wx (N + 1) #[.int .i64 0, .slice none 0 0] 24
  o : Bk wx (N + 1 + 1) #[.int .i64 nx, sv] 24
  o0 : wx.ownsRow (N + 3) 41 3 sv p.length (flk Ak.cl p)
  o1 : wx.ownsRow (N + 3) 41 3 gv q.length (flk Ak.cl q)
  ne : ∀ g, sv.ownBlock = some g → gv.ownBlock = some g → False
theorem Ow.step {N : Nat} {nx : Int} {sc : Array Value} {sv gv : Value} {p q : List Ak} {w wx wy : World} (h : Ow N nx sc sv gv p q w wx) (hb : Below wx.heap.size wx wy) : Ow N nx sc sv gv p q w wy :=
  ⟨h.below.trans (hb.mono (by have := h.sz; omega)), Nat.le_trans h.sz hb.size, h.st.below hb, h.r.below hb, h.o.below hb, own_below h.o0 hb, own_below h.o1 hb, h.ne⟩

theorem Ow.app0 {N : Nat} {nx : Int} {sc : Array Value} {sv gv v' : Value} {p q : List Ak} {a : Ak} {cs : Array Value} {T : TypeId} {w wx w5 wy : World} (h : Ow N nx sc sv gv p q w wx) (hg : (wx.alloc (.cells cs T)).grownBy w5 sv.ownBlock) (ho : w5.ownsRow (N + 3) 41 3 v' (p ++ [a]).length (flk Ak.cl (p ++ [a]))) (hn : v'.ownBlock = sv.ownBlock ∨ ∃ g, v'.ownBlock = some g ∧ (wx.alloc (.cells cs T)).heap.size ≤ g) (hy : wy = w5.setCell ⟨N + 1 + 1, 1, none⟩ v') : Ow N nx sc v' gv (p ++ [a]) q w wy := by
  have h1 := h.step (below1 wx (.cells cs T))
  have hsz := h.sz
  have hsa : (wx.alloc (.cells cs T)).heap.size = wx.heap.size + 1 := by simp
  have hs5 := hg.size
  have hsy : wy.heap.size = w5.heap.size := by rw [hy]; simp
  have lt := fun g e => (h.o0.lt g e).1
  have nob : ∀ k, k < N + 3 → sv.ownBlock ≠ some k := fun k hk e => by have := lt k e; omega
  have bl : Below N wx wy := by
    refine ⟨?_, ?_, ?_, by omega, fun k hk => ?_⟩
    · rw [hy]; exact hg.os
    · rw [hy]; exact hg.tape
    · rw [hy]; exact hg.output
    · rw [hy, Below.heap_setCell _ _ _ _ (by simp; omega), hg.block k (by omega) (fun e => nob k (by omega) e.symm)]
      exact (below1 wx (.cells cs T)).block k (by omega)
  have bo : ∀ {M : Nat} {c : Array Value} {T' : TypeId}, M < N + 3 → M ≠ N + 1 + 1 → Bk wx M c T' → Bk wy M c T' := fun hM hne hb => by
    rw [hy]
    exact (((hb.below (below1 wx (.cells cs T))).grown hg (nob _ hM)).other _ _ (by simpa using hne))
  have bs : Bk wy (N + 1 + 1) #[.int .i64 nx, v'] 24 := by
    rw [hy]
    exact ((h.o.below (below1 wx (.cells cs T))).grown hg (nob _ (by omega))).set 1 _
  have so : wy.ownsRow (N + 3) 41 3 v' (p ++ [a]).length (flk Ak.cl (p ++ [a])) := by
    rw [hy]
    exact own_set ho (by omega) _ _
  have oo : wy.ownsRow (N + 3) 41 3 gv q.length (flk Ak.cl q) := by
    rw [hy]
    refine own_set (World.ownsRow.kept (row := sv.ownBlock) h1.o1 hg ?_) (by omega) _ _
    cases e1 : gv.ownBlock with
    | none => exact .inl rfl
    | some g => exact .inr fun e2 => h.ne g e2.symm e1
  have nn : ∀ g, v'.ownBlock = some g → gv.ownBlock = some g → False := fun g e1 e2 => by
    rcases hn with e3 | ⟨g', e3, e4⟩
    · rw [e3] at e1; exact h.ne g e1 e2
    · rw [e1] at e3
      injection e3 with e3
      have := (h.o1.lt g e2).2
      omega
  exact ⟨h.below.trans bl, by omega, bo (by omega) (by omega) h.st, bo (by omega) (by omega) h.r, bs, so, oo, nn⟩

theorem Ow.app1 {N : Nat} {nx : Int} {sc : Array Value} {sv gv v' : Value} {p q : List Ak} {a : Ak} {cs : Array Value} {T : TypeId} {w wx w5 wy : World} (h : Ow N nx sc sv gv p q w wx) (hg : (wx.alloc (.cells cs T)).grownBy w5 gv.ownBlock) (ho : w5.ownsRow (N + 3) 41 3 v' (q ++ [a]).length (flk Ak.cl (q ++ [a]))) (hn : v'.ownBlock = gv.ownBlock ∨ ∃ g, v'.ownBlock = some g ∧ (wx.alloc (.cells cs T)).heap.size ≤ g) (hy : wy = w5) : Ow N nx sc sv v' p (q ++ [a]) w wy := by
  have h1 := h.step (below1 wx (.cells cs T))
  have hsz := h.sz
  have hsa : (wx.alloc (.cells cs T)).heap.size = wx.heap.size + 1 := by simp
  have hs5 := hg.size
  have hsy : wy.heap.size = w5.heap.size := by rw [hy]
  have lt := fun g e => (h.o1.lt g e).1
  have nob : ∀ k, k < N + 3 → gv.ownBlock ≠ some k := fun k hk e => by have := lt k e; omega
  have bl : Below N wx wy := by
    refine ⟨?_, ?_, ?_, by omega, fun k hk => ?_⟩
    · rw [hy]; exact hg.os
    · rw [hy]; exact hg.tape
    · rw [hy]; exact hg.output
    · rw [hy, hg.block k (by omega) (fun e => nob k (by omega) e.symm)]
      exact (below1 wx (.cells cs T)).block k (by omega)
  have bo : ∀ {M : Nat} {c : Array Value} {T' : TypeId}, M < N + 3 → M ≠ N + 1 + 1 → Bk wx M c T' → Bk wy M c T' := fun hM hne hb => by
    rw [hy]
    exact ((hb.below (below1 wx (.cells cs T))).grown hg (nob _ hM))
  have so : wy.ownsRow (N + 3) 41 3 v' (q ++ [a]).length (flk Ak.cl (q ++ [a])) := by
    rw [hy]
    exact ho
  have oo : wy.ownsRow (N + 3) 41 3 sv p.length (flk Ak.cl p) := by
    rw [hy]
    refine World.ownsRow.kept (row := gv.ownBlock) h1.o0 hg ?_
    cases e1 : sv.ownBlock with
    | none => exact .inl rfl
    | some g => exact .inr fun e2 => h.ne g e1 e2.symm
  have nn : ∀ g, v'.ownBlock = some g → sv.ownBlock = some g → False := fun g e1 e2 => by
    rcases hn with e3 | ⟨g', e3, e4⟩
    · rw [e3] at e1; exact h.ne g e2 e1
    · rw [e1] at e3
      injection e3 with e3
      have := (h.o0.lt g e2).2
      omega
  exact ⟨h.below.trans bl, by omega, bo (by omega) (by omega) h.st, bo (by omega) (by omega) h.r, by rw [hy]; exact (h.o.below (below1 wx (.cells cs T))).grown hg (nob _ (by omega)), oo, so, fun g a b => nn g b a⟩

/-- How Answer and Expire begin. -/
theorem ow_start (nx : Int) (sc : Array Value) (w : World) : ∃ w1 w2 w3, Hid (w.alloc (.cells sc 24) = w1) ∧ Hid (w1.alloc (.cells #[.int .i64 0, .slice none 0 0] 24) = w2) ∧ Hid (w2.alloc (.cells #[.int .i64 nx, .slice none 0 0] 24) = w3) ∧ Bk w2 w.heap.size sc 24 ∧ Ow w.heap.size nx sc (.slice none 0 0) (.slice none 0 0) [] [] w w3 ∧ w1.heap.size = w.heap.size + 1 ∧ w2.heap.size = w.heap.size + 1 + 1 := by
  refine ⟨_, _, _, rfl, rfl, rfl, ?_, ?_, by simp, by simp⟩
  · exact (Bk.new w sc _).below (below1 _ _)
  · have n2 := Bk.new (w.alloc (.cells sc 24)) #[.int .i64 0, .slice none 0 0] 24
    have n3 := Bk.new ((w.alloc (.cells sc 24)).alloc (.cells #[.int .i64 0, .slice none 0 0] 24)) #[.int .i64 nx, .slice none 0 0] 24
    simp only [World.size_alloc] at n2 n3
    exact ⟨(((Below.refl _ w).alloc (Nat.le_refl _) _).alloc (by simp) _).alloc (by simp; omega) _, by simp, ((Bk.new w sc _).below (below1 _ _)).below (below1 _ _), n2.below (below1 _ _), n3, World.ownsRow_nil _ _ _ _, World.ownsRow_nil _ _ _ _, fun g e => by cases e⟩
/-- .. and end: what is left goes into the result. -/
theorem Ow.fin {N : Nat} {nx : Int} {sc : Array Value} {sv gv : Value} {p q : List Ak} {w wx : World} (h : Ow N nx sc sv gv p q w wx) (hN : N = w.heap.size) {wy : World} (hy : wy = (wx.setCell ⟨N + 1, 0, none⟩ (.int .i64 nx)).setCell ⟨N + 1, 1, none⟩ sv) :
    wy.ownsRow w.heap.size 41 3 sv p.length (flk Ak.cl p) ∧ wy.ownsRow w.heap.size 41 3 gv q.length (flk Ak.cl q) ∧ Below w.heap.size w wy := by
  subst hy hN
  have hsz := h.sz
  exact ⟨World.ownsRow.mono (own_set (own_set h.o0 (by omega) _ _) (by omega) _ _) (by omega), World.ownsRow.mono (own_set (own_set h.o1 (by omega) _ _) (by omega) _ _) (by omega), (h.below.setCell (p := ⟨w.heap.size + 1, 0, none⟩) (by simp) _).setCell (p := ⟨w.heap.size + 1, 1, none⟩) (by simp) _⟩
end Go.Proofs.Ytgghppojjhnbeaa
