/- Each timer fires once, at its tick; the conditions: the script in memory, of a size that can be. -/
import Derived.Test.YtignphkfknjllaaDoorWz
import Derived.Test.YtignphkfknjllaaDoorXRd
namespace Go.Proofs.YtignphkfknjllaaDoor
open Go.RowKit

/-- A row of numbers of one's own. -/
def IR (w : World) (L : Nat) (I : List Int) (sl : Value) : Prop := w.ownsRow L 2 1 sl I.length (I.map (Value.int .i64))
theorem infoI : (Tryd.prog.info? 2).map (fun i => (i.zero, i.size, i.bytes)) = some (some (.int .i64 0), 1, 8) := by kernel_rfl
theorem IR.nil (w : World) (L : Nat) : IR w L [] (.slice none 0 0) := World.ownsRow_nil _ _ _ _
theorem IR.blk {w w' : World} {L : Nat} {I : List Int} {sl : Value} (h : IR w L I sl) (hk : ∀ g, sl.ownBlock = some g → w'.heap[g]? = w.heap[g]?) : IR w' L I sl := by
  refine ⟨h.1, ?_⟩
  rcases h.2 with hn | ⟨g, cap, cur, hv, hb, hg, rest⟩
  · exact .inl hn
  · refine .inr ⟨g, cap, cur, hv, hb, (hk g (by rw [hv]; rfl)).trans hg, rest⟩
theorem IR.own {w : World} {L : Nat} {I : List Int} {sl : Value} (h : IR w L I sl) {g : Nat} (hg : sl.ownBlock = some g) : L ≤ g ∧ g < w.heap.size ∧ ∃ cs, Bk w g cs 2 := by
  rcases h.2 with ⟨hv, _⟩ | ⟨g', cap, cur, hv, hb, hg', rest⟩
  · rw [hv] at hg; cases hg
  · rw [hv] at hg
    cases hg
    exact ⟨hb, (Array.getElem?_eq_some_iff.1 hg').1, cur, hg'⟩
theorem IR.si {w : World} {L : Nat} {I : List Int} {sl : Value} (h : IR w L I sl) : ∃ ad c, sl = .slice ad I.length c ∧ (I = [] ∨ ∃ g, ad = some ⟨g, 0, none⟩ ∧ ∀ j x, I[j]? = some x → w.cell? ⟨g, j, none⟩ = some (.int .i64 x)) := by
  rcases h.2 with ⟨hv, h0⟩ | ⟨g, cap, cur, hv, hb, hg, hnc, hm, hcs, htk⟩
  · obtain rfl : I = [] := List.eq_nil_of_length_eq_zero h0
    exact ⟨none, 0, hv, .inl rfl⟩
  · refine ⟨_, cap, hv, .inr ⟨g, rfl, fun j x hx => ?_⟩⟩
    have hj := (List.getElem?_eq_some_iff.1 hx).1
    have h1 : (cur.toList.take (I.length * 1))[j]? = (I.map (Value.int .i64))[j]? := by rw [htk]
    rw [List.getElem?_take, if_pos (by omega), List.getElem?_map, hx] at h1
    simp only [Option.map_some, Array.getElem?_toList] at h1
    simp [World.cell?, hg, h1]
theorem wpList_ir {ops : Array Oper} {rest : List Oper} {o : Oper} {a : Act} {Q : Exit → Act → World → Prop} {w : World} (hgd : o.guard = none) (s x : Operand)
    (ho : o.op = .call { callee := .builtin .append, args := #[s, x], argTypes := #[33, 33] }) (L : Nat) (I : List Int) (sl : Value) (hs : a.eval s = sl) (hp : IR w L I sl)
    (Y : Nat) (i : Int) (hx : a.eval x = .slice (some ⟨Y, 0, none⟩) 1 1) (hy : Bk w Y #[.int .i64 i] 2) (hlen : I.length + 1 ≤ 8796093022208) (hL : L ≤ w.heap.size)
    (h : ∀ sl' w', IR w' L (I ++ [i]) sl' → w.grownBy w' sl.ownBlock → wpList Tryd.prog ops Q rest (a.put o.dst sl') w') : wpList Tryd.prog ops Q (o :: rest) a w := by
  obtain ⟨i0, hi0, hz0, hz1, hz2⟩ := info_parts infoI
  refine wpList_append_lies _ hgd s x 33 ho L 2 i0 _ 1 8 Tryd.underlying33 hi0 hz0 hz1 hz2 rfl (by decide) sl I.length (I.map (Value.int .i64)) hs hp ⟨Y, 0, none⟩ 1 1 [.int .i64 i] hx rfl (fun j u hu => ?_) (fun u hu => by simp at hu; subst hu; rfl) (by decide) (by unfold maxLen; omega) (by omega) hL _ rfl ?_
  · match j, hu with
    | 0, hu =>
      simp at hu
      subst hu
      exact hy.c 0
    | j + 1, hu => simp at hu
  intro g cap w' own gr at' lt'
  refine h _ w' ?_ gr
  unfold IR
  rw [List.map_append, List.length_append]
  exact own
theorem IR.like {w w' : World} {L : Nat} {I : List Int} {sl : Value} (h : IR w L I sl) (l : Like w w') : IR w' L I sl := h.blk (fun g _ => by rw [l.1])

/-- What holds from tick to tick. -/
structure On (w0 : World) (n1 n2 b m : Nat) (LL : List Tm) (Tc : Nat) (O : List Tm) (sl : Value) (wr : World) : Prop where
  wh : Wh true wr b m Tc (lat Tc LL)
  fd : Fd LL Tc O
  ir : IR wr n2 (O.map Tm.i) sl
  be : Below n1 w0 wr
  sz : n2 ≤ wr.heap.size
/-- What holds while those of a tick are told. -/
structure Oi (w0 : World) (n1 n2 b m : Nat) (LL : List Tm) (n : Nat) (O F : List Tm) (j : Nat) (sl sf : Value) (wr : World) : Prop where
  wh : Wh true wr b m n (lat n LL)
  ir : IR wr n2 ((O ++ F.take j).map Tm.i) sl
  fr : FR wr n2 F sf
  be : Below n1 w0 wr
  sz : n2 ≤ wr.heap.size
theorem FR.base {w : World} {L L' : Nat} {F : List Tm} {sl : Value} (h : FR w L F sl) (hL : L' ≤ L) : FR w L' F sl := by
  refine ⟨⟨h.1.1, ?_⟩, h.2⟩
  rcases h.1.2 with hn | ⟨g, cap, cur, hv, hb, rest⟩
  · exact .inl hn
  · exact .inr ⟨g, cap, cur, hv, by omega, rest⟩
section
variable {w0 : World} {n1 n2 b m : Nat} {LL : List Tm} {Tc : Nat} {O : List Tm} {sl : Value} {wr : World}
theorem On.below {w' : World} (h : On w0 n1 n2 b m LL Tc O sl wr) (hn : n1 ≤ n2) (hb : Below wr.heap.size wr w') : On w0 n1 n2 b m LL Tc O sl w' :=
  ⟨h.wh.below hb, h.fd, h.ir.blk (fun g hg => hb.block g (h.ir.own hg).2.1), h.be.trans (hb.mono (by have := h.sz; omega)), Nat.le_trans h.sz hb.size⟩
/-- Time goes on to where none fires. -/
theorem On.wait {w' : World} (h : On w0 n1 n2 b m LL Tc O sl wr) (hn : n1 ≤ n2) (ho : ∀ B, OwL b m LL B → n1 ≤ B ∧ B < n2) {U : Nat} (hU : Tc ≤ U) (hmin : ∀ t ∈ lat Tc LL, U < t.a) {F : List Tm} (fd : Fd (lat Tc LL) U F) (wh : Wh true w' b m U (lat U (lat Tc LL))) (bt : But (OwL b m (lat Tc LL)) wr w') : F = [] ∧ On w0 n1 n2 b m LL U O sl w' := by
  have hF : F = [] := by
    cases F with
    | nil => rfl
    | cons t F =>
      have h1 := fd.mem (t := t) (by simp)
      have h2 := hmin t h1.2
      omega
  subst hF
  have hfd := h.fd.app fd hU
  rw [List.append_nil] at hfd
  rw [lat_lat hU] at wh
  refine ⟨rfl, wh, hfd, h.ir.blk (fun g hg => bt.block g (h.ir.own hg).2.1 (fun c => by have := (h.ir.own hg).1; have := (ho g (lat_own c)).2; omega)), but_below h.be bt (fun B c => (ho B (lat_own c)).1) (by have := h.sz; omega), Nat.le_trans h.sz bt.size⟩
/-- Time goes on to a tick of which there are some. -/
theorem On.fire {w' : World} (h : On w0 n1 n2 b m LL Tc O sl wr) (hn : n1 ≤ n2) (ho : ∀ B, OwL b m LL B → n1 ≤ B ∧ B < n2) {U : Nat} (hU : Tc ≤ U) (hmin : ∀ t ∈ lat Tc LL, U ≤ t.a) (hex : ∃ t ∈ lat Tc LL, t.a = U) {F : List Tm} {sf : Value} (fr : FR w' wr.heap.size F sf) (fd : Fd (lat Tc LL) U F) (wh : Wh true w' b m U (lat U (lat Tc LL))) (bt : But (OwL b m (lat Tc LL)) wr w') :
    F ≠ [] ∧ (∀ t ∈ F, t.a = U) ∧ Fd LL U (O ++ F) ∧ Oi w0 n1 n2 b m LL U O F 0 sl sf w' := by
  have hne : F ≠ [] := by
    obtain ⟨t, ht, e⟩ := hex
    intro c
    have h1 := fd.2 U
    rw [c, if_pos (Nat.le_refl _)] at h1
    have h2 : t ∈ fl U (lat Tc LL) := mem_fl.2 ⟨ht, e⟩
    rw [← h1] at h2
    simp [fl] at h2
  refine ⟨hne, fun t ht => ?_, h.fd.app fd hU, ?_⟩
  · have h1 := fd.mem ht
    have h2 := hmin t h1.2
    omega
  · rw [lat_lat hU] at wh
    refine ⟨wh, ?_, fr.base h.sz, but_below h.be bt (fun B c => (ho B (lat_own c)).1) (by have := h.sz; omega), Nat.le_trans h.sz bt.size⟩
    have : IR w' n2 (O.map Tm.i) sl := h.ir.blk (fun g hg => bt.block g (h.ir.own hg).2.1 (fun c => by have := (h.ir.own hg).1; have := (ho g (lat_own c)).2; omega))
    simpa using this
end
section
variable {w0 : World} {n1 n2 b m : Nat} {LL : List Tm} {n : Nat} {O F : List Tm} {j : Nat} {sl sf : Value} {wr : World}
theorem Oi.like {w' : World} (h : Oi w0 n1 n2 b m LL n O F j sl sf wr) (l : Like wr w') : Oi w0 n1 n2 b m LL n O F j sl sf w' :=
  ⟨h.wh.like l, h.ir.like l, h.fr.blk (fun g _ => by rw [l.1]), ⟨l.2.1.trans h.be.os, l.2.2.1.trans h.be.tape, l.2.2.2.trans h.be.output, by rw [l.1]; exact h.be.size, fun k hk => by rw [l.1]; exact h.be.block k hk⟩, by rw [l.1]; exact h.sz⟩
theorem Oi.below {w' : World} (h : Oi w0 n1 n2 b m LL n O F j sl sf wr) (hn : n1 ≤ n2) (hb : Below wr.heap.size wr w') : Oi w0 n1 n2 b m LL n O F j sl sf w' :=
  ⟨h.wh.below hb, h.ir.blk (fun g hg => hb.block g (h.ir.own hg).2.1), h.fr.blk (fun g hg => hb.block g (h.fr.own hg).2.1), h.be.trans (hb.mono (by have := h.sz; omega)), Nat.le_trans h.sz hb.size⟩
theorem Oi.step {w' : World} (h : Oi w0 n1 n2 b m LL n O F j sl sf wr) (hn : n1 ≤ n2) (ho : ∀ B, OwL b m LL B → n1 ≤ B ∧ B < n2) {t : Tm} (ht : F[j]? = some t) {sl' : Value} (ir : IR w' n2 ((O ++ F.take j).map Tm.i ++ [t.i]) sl') (g : wr.grownBy w' sl.ownBlock) : Oi w0 n1 n2 b m LL n O F (j + 1) sl' sf w' := by
  have b3 : But (fun B => sl.ownBlock = some B) wr w' := But.grown g (fun k e _ => e)
  have hb := h.sz
  have b4 : But (fun B => n2 ≤ B) wr w' := b3.mono (fun k _ c => (h.ir.own c).1)
  refine ⟨h.wh.but b4 (fun B c o => by have := (ho B (lat_own o)).2; omega), ?_, h.fr.blk (fun g hg => b3.block g (h.fr.own hg).2.1 (fun c => ?_)), but_below h.be b4 (fun B c => by omega) (by omega), Nat.le_trans h.sz b4.size⟩
  · rw [List.take_add_one, ht]
    simpa using ir
  · exact bk_ne (h.ir.own c).2.2 (h.fr.own hg).2.2 (by decide) rfl
theorem Oi.end' (h : Oi w0 n1 n2 b m LL n O F F.length sl sf wr) (hfd : Fd LL n (O ++ F)) : On w0 n1 n2 b m LL n (O ++ F) sl wr := by
  refine ⟨h.wh, hfd, ?_, h.be, h.sz⟩
  have := h.ir
  rwa [List.take_length] at this
end
theorem fd_nodup {LL O : List Tm} {U : Nat} (h : Fd LL U O) (hn : (LL.map Tm.i).Nodup) : (O.map Tm.i).Nodup := by
  have h1 := (h.perm.map Tm.i).nodup_iff.2 ((List.filter_sublist.map Tm.i).nodup hn)
  exact h1
theorem fd_gone {LL O : List Tm} {U : Nat} (h : Fd LL U O) (hn : (LL.map Tm.i).Nodup) {t : Tm} (ht : t ∈ O) : t.i ∉ (lat U LL).map Tm.i := by
  intro c
  obtain ⟨u, hu, e⟩ := List.mem_map.1 c
  obtain ⟨h1, h2⟩ := mem_lat.1 hu
  obtain ⟨h3, h4⟩ := h.mem ht
  have := nd_inj hn h1 h4 e
  subst this
  omega
theorem fresh_id {O F : List Tm} (hn : ((O ++ F).map Tm.i).Nodup) {j : Nat} {t : Tm} (ht : F[j]? = some t) : ∀ (k : Nat) (x : Int), ((O ++ F.take j).map Tm.i)[k]? = some x → x ≠ t.i := by
  intro k x hx e
  have hj := (List.getElem?_eq_some_iff.1 ht).1
  have e1 : O ++ F = (O ++ F.take j) ++ (t :: F.drop (j + 1)) := by
    have : F.drop j = t :: F.drop (j + 1) := by rw [List.drop_eq_getElem_cons hj, (List.getElem?_eq_some_iff.1 ht).2]
    rw [List.append_assoc, ← this, List.take_append_drop]
  rw [e1, List.map_append, List.nodup_append] at hn
  exact hn.2.2 x (List.mem_of_getElem? hx) t.i (by simp) e
end Go.Proofs.YtignphkfknjllaaDoor
