/- The law TrieCovered at every input within the sizes named; what is asked of the world: the two tables of unicode/utf8 as their text lays them. -/
import Derived.Test.YtnlplnlclnbdiaaDoorMd
import Derived.Test.YtnlplnlclnbdiaaDoorKt
import Derived.Test.YtnlplnlclnbdiaaDoorRco
import Derived.Test.YtnlplnlclnbdiaaDoorTz1
import Derived.Test.YtnlplnlclnbdiaaDoorNm
namespace Go.Proofs.YtnlplnlclnbdiaaDoor
open Go.RowKit Tp Go.Maps Go.Shelf

theorem infoSl : (Tryd.prog.info? 30).map (fun i => (i.zero, i.size, i.bytes)) = some (some (.slice none 0 0), 1, 24) := by kernel_rfl

/-- What a name is answered, of such subscriptions. -/
def Heard (A : List (Bs × Int)) (nm : ByteArray) (l : List Int) : Prop := Rise l ∧ ∀ i, i ∈ l ↔ (isName (tl nm) = true ∧ hears (Sof A) (tl nm) i = true)
theorem Heard.eq {A A' : List (Bs × Int)} {nm : ByteArray} {l l' : List Int} (h : Heard A nm l) (h' : Heard A' nm l') (e : isName (tl nm) = true → ∀ i, hears (Sof A) (tl nm) i = true ↔ hears (Sof A') (tl nm) i = true) : l = l' :=
  h.1.ext h'.1 fun i => by
    rw [h.2 i, h'.2 i]
    constructor
    · rintro ⟨a, b⟩; exact ⟨a, (e a i).1 b⟩
    · rintro ⟨a, b⟩; exact ⟨a, (e a i).2 b⟩

/-- Rows of numbers that were answered, kept in a row of their own, new since wb. -/
structure Was (wb W : World) (wv : Value) (vs : List Value) (ls : List (List Int)) : Prop where
  row : W.ownsRow wb.heap.size 30 1 wv vs.length vs
  len : vs.length = ls.length
  ints : ∀ (j : Nat) (v : Value) (l : List Int), vs[j]? = some v → ls[j]? = some l → IntRow W v l
  apart : ∀ (j : Nat) (v : Value) (g : Nat), vs[j]? = some v → v.ownBlock = some g → wb.heap.size ≤ g ∧ g < W.heap.size ∧ wv.ownBlock ≠ some g

theorem Was.start (wb W : World) : Was wb W (.slice none 0 0) [] [] := ⟨World.ownsRow_nil _ _ _ _, rfl, by simp, by simp⟩
theorem Was.below {wb W W' : World} {wv : Value} {vs : List Value} {ls : List (List Int)} (h : Was wb W wv vs ls) (hB : Below W.heap.size W W') : Was wb W' wv vs ls := by
  refine ⟨?_, h.len, fun j v l h1 h2 => (h.ints j v l h1 h2).below hB, fun j v g h1 h2 => ?_⟩
  · obtain ⟨h1, h2⟩ := h.row
    refine ⟨h1, ?_⟩
    rcases h2 with h2 | ⟨g, c, cur, rfl, h3, h4, h5⟩
    · exact .inl h2
    · exact .inr ⟨g, c, cur, rfl, h3, (hB.block g (Array.getElem?_eq_some_iff.1 h4).1).trans h4, h5⟩
  · obtain ⟨a, b, c⟩ := h.apart j v g h1 h2; exact ⟨a, Nat.lt_of_lt_of_le b hB.size, c⟩
/-- One row more. -/
theorem Was.more {wb W W' : World} {wv wv' v : Value} {vs : List Value} {ls : List (List Int)} {l : List Int} (h : Was wb W wv vs ls) (hv : IntRow W v l) (hvb : ∀ g, v.ownBlock = some g → wb.heap.size ≤ g ∧ g < W.heap.size ∧ wv.ownBlock ≠ some g)
    (ho : W'.ownsRow wb.heap.size 30 1 wv' (vs.length + 1) (vs ++ [v])) (hB : But (fun k => wv.ownBlock = some k) W W') (hat : wv'.ownBlock = wv.ownBlock ∨ ∀ g, wv'.ownBlock = some g → W.heap.size ≤ g) : Was wb W' wv' (vs ++ [v]) (ls ++ [l]) := by
  have hap : ∀ g, wb.heap.size ≤ g ∧ g < W.heap.size ∧ wv.ownBlock ≠ some g → wb.heap.size ≤ g ∧ g < W'.heap.size ∧ wv'.ownBlock ≠ some g := fun g ⟨a, b, c⟩ => by
    refine ⟨a, Nat.lt_of_lt_of_le b hB.size, fun e => ?_⟩
    rcases hat with h1 | h1
    · exact c (h1 ▸ e)
    · have := h1 g e; omega
  have split : ∀ (j : Nat) (u : Value), (vs ++ [v])[j]? = some u → (j < vs.length ∧ vs[j]? = some u) ∨ (j = vs.length ∧ u = v) := fun j u hj => by
    by_cases hlt : j < vs.length
    · rw [List.getElem?_append_left hlt] at hj; exact .inl ⟨hlt, hj⟩
    · rw [List.getElem?_append_right (by omega)] at hj
      have : j - vs.length = 0 := by have := (List.getElem?_eq_some_iff.1 hj).1; simp at this; omega
      rw [this] at hj; simp at hj; exact .inr ⟨by omega, hj.symm⟩
  refine ⟨by simpa using ho, by simp [h.len], fun j u l' h1 h2 => ?_, fun j u g h1 h2 => ?_⟩
  · rcases split j u h1 with ⟨a, b⟩ | ⟨a, rfl⟩
    · rw [List.getElem?_append_left (by rw [← h.len]; exact a)] at h2
      exact (h.ints j u l' b h2).but hB (fun g e c => (h.apart j u g b e).2.2 c)
    · rw [a, List.getElem?_append_right (by rw [h.len]; exact Nat.le_refl _), h.len] at h2
      simp at h2; subst h2
      exact hv.but hB (fun g e c => (hvb g e).2.2 c)
  · rcases split j u h1 with ⟨a, b⟩ | ⟨a, rfl⟩
    · exact hap g (h.apart j u g b h2)
    · exact hap g (hvb g h2)

/-- Under a filter that is covered a number changes nothing. -/
theorem covered_hears {A : List (Bs × Int)} {f g : Bs} {i0 : Int} (hA : Subs A) (hi : (Lit.int .i64 i0).wf = true) (hc : coversR f g = true) (n : Bs) (hn : isName n = true) (i : Int) :
    hears (Sof (addA (addA A f i0) g i0)) n i = true ↔ hears (Sof (addA A f i0)) n i = true := by
  have hA1 := hA.add (f := f) hi
  have hA2 := hA1.add (f := g) hi
  rw [hears_iff hA2 hn, hears_iff hA1 hn]
  have hff : isFilter f = true := by unfold coversR at hc; simp only [Bool.and_eq_true] at hc; exact hc.1.1.1
  have hin : (f, i0) ∈ addA A f i0 := by
    unfold addA
    by_cases h : (f, i0) ∈ A
    · rw [if_neg (fun hc => hc.2 h)]; exact h
    · rw [if_pos ⟨hff, h⟩]; simp
  have hmem : ∀ e, e ∈ addA (addA A f i0) g i0 → e ∈ addA A f i0 ∨ e = (g, i0) := fun e he => by
    rw [addA] at he
    split at he
    · rcases List.mem_append.1 he with h | h
      · exact .inl h
      · rw [List.mem_singleton] at h; exact .inr h
    · exact .inl he
  have hsub : ∀ e, e ∈ addA A f i0 → e ∈ addA (addA A f i0) g i0 := fun e he => by
    rw [addA]
    split
    · exact List.mem_append.2 (.inl he)
    · exact he
  constructor
  · rintro ⟨f', h1, h2⟩
    rcases hmem _ h1 with h | h
    · exact ⟨f', h, h2⟩
    · cases h
      refine ⟨f, hin, ?_⟩
      rw [← match_ref] at h2 ⊢
      exact matches_covers (by rw [covers_ref]; exact hc) h2
  · rintro ⟨f', h1, h2⟩; exact ⟨f', hsub _ h1, h2⟩

theorem Was.but {wb W W' : World} {wv : Value} {vs : List Value} {ls : List (List Int)} (h : Was wb W wv vs ls) {C : Nat → Prop} (hB : But C W W') (hC : ∀ k, wb.heap.size ≤ k → ¬ C k) : Was wb W' wv vs ls := by
  refine ⟨?_, h.len, fun j v l h1 h2 => (h.ints j v l h1 h2).but hB (fun g e => hC g (h.apart j v g h1 e).1), fun j v g h1 h2 => ?_⟩
  · obtain ⟨h1, h2⟩ := h.row
    refine ⟨h1, ?_⟩
    rcases h2 with h2 | ⟨g, c, cur, rfl, h3, h4, h5⟩
    · exact .inl h2
    · exact .inr ⟨g, c, cur, rfl, h3, hB.at h4 (hC g h3), h5⟩
  · obtain ⟨a, b, c⟩ := h.apart j v g h1 h2; exact ⟨a, Nat.lt_of_lt_of_le b hB.size, c⟩
theorem Was.lt {wb W : World} {wv : Value} {vs : List Value} {ls : List (List Int)} (h : Was wb W wv vs ls) : ∀ g, wv.ownBlock = some g → g < W.heap.size := fun g e => by
  obtain ⟨h1, ⟨rfl, _⟩ | ⟨g', c, cur, rfl, h3, h4, h5⟩⟩ := h.row
  · cases e
  · cases e; exact (Array.getElem?_eq_some_iff.1 h4).1
theorem Was.cell {wb W : World} {wv : Value} {vs : List Value} {ls : List (List Int)} (h : Was wb W wv vs ls) : ∃ a c, wv = .slice a vs.length c ∧ ∀ (j : Nat) v, vs[j]? = some v → ∃ g, a = some ⟨g, 0, none⟩ ∧ W.cell? ⟨g, j, none⟩ = some v := by
  obtain ⟨h1, ⟨rfl, h0⟩ | ⟨g, c, cur, rfl, h3, h4, h5, h6, h7, h8⟩⟩ := h.row
  · refine ⟨none, 0, by rw [h0], fun j v hj => ?_⟩
    have := (List.getElem?_eq_some_iff.1 hj).1
    omega
  · refine ⟨_, c, rfl, fun j v hj => ⟨g, rfl, ?_⟩⟩
    rw [cell_at h4 j]
    have hjl := (List.getElem?_eq_some_iff.1 hj).1
    have : (cur.toList.take (vs.length * 1))[j]? = vs[j]? := by rw [h8]
    rw [List.getElem?_take_of_lt (by omega), hj] at this
    simpa using this

set_option maxRecDepth 100000 in
set_option maxHeartbeats 4000000 in
theorem law_covered (w : World) (v vn : Value) (X : List Ac) (Ns : List ByteArray) (f g : ByteArray) (i : Int) (hX : ActRow w v X) (hok : ActOk X) (hN : NamesAt w vn Ns) (hNs : ∀ x ∈ Ns, x.size ≤ 9223372036854775807) (hf : f.size ≤ 9223372036854775807) (hg : g.size ≤ 9223372036854775807) (hi : (Lit.int .i64 i).wf = true)
    (hlX : X.length ≤ 1048576) (hlN : Ns.length ≤ 1048576) (hT : Tabs w) :
    Calls Tryd.prog 3 #[v, .string f, .string g, .int .i64 i, vn] w fun e w' => e = .returned (.bool true) ∧ Below w.heap.size w w' := by
  have hrl := runA_len X
  have KB := Lib.hid (built_any w v X hX hok (by omega) hT)
  have KF : Hid (∀ W t lb, TL w W t lb (runA X) (runA X) (X.length * 65537) → Calls Tryd.prog 5 #[.pointer (some ⟨t, 0, none⟩), .string f, .int .i64 i] W fun e w' => e = .returned (.bool (isFilter (tl f) && !Sof (runA X) (lvs (tl f)) i)) ∧ TL w w' t lb (addA (runA X) (tl f) i) (runA X) (X.length * 65537 + 65537)) := fun W t lb h => tl_tadd h hT f hf i hi (by unfold maxLen; omega)
  have hsn : ∃ a c, vn = .slice a Ns.length c := by rcases hN with ⟨⟨_, _, rfl⟩, rfl⟩ | ⟨g, o, c, rfl, _⟩ <;> exact ⟨_, _, rfl⟩
  obtain ⟨an, cn, rfl⟩ := hsn
  have hsv : ∃ a c, v = .slice a X.length c := by rcases hX with ⟨⟨_, _, rfl⟩, rfl⟩ | ⟨g, o, c, rfl, _⟩ <;> exact ⟨_, _, rfl⟩
  obtain ⟨ax, cx, rfl⟩ := hsv
  go_enter Tryd.func3, Tryd.ntmps3
  go_wp2_with (first
    | (go_at_call 4; refine KB.out.mono ?_; rintro e w1 ⟨t, lb, rfl, h1⟩)
    | (go_at_call 5; refine (KF.out _ t lb h1).mono ?_; rintro e wb ⟨rfl, h2⟩; clear KF))
  have HH : Hid (Has w wb t (addA (runA X) (tl f) i) (X.length * 65537 + 65537)) := by obtain ⟨q1, nd, own, n, v, q2, _⟩ := h2; exact ⟨q1, nd, own, n, q2⟩
  have hbw := h2.1
  have HS : Subs (runA X) := h1.subs
  have hA1 : (addA (runA X) (tl f) i).length ≤ X.length + 1 := by have : (addA (runA X) (tl f) i).length ≤ (runA X).length + 1 := by { unfold addA; split <;> simp }; omega
  have KM : Hid (∀ W (j : Nat) (hj : j < Ns.length), Below wb.heap.size wb W → Calls Tryd.prog 6 #[.pointer (some ⟨t, 0, none⟩), .string Ns[j]] W fun e w' => ∃ a n c l, e = .returned (.slice a n c) ∧ Heard (addA (runA X) (tl f) i) Ns[j] l ∧ IntRow w' (.slice a n c) l ∧ (∀ g, (Value.slice a n c).ownBlock = some g → W.heap.size ≤ g ∧ g < w'.heap.size) ∧ Below W.heap.size W w') := fun W j hj hW =>
    (has_match (HH.out.below hW) hT Ns[j] (hNs _ (List.getElem_mem hj)) (by unfold maxLen; omega) (by omega)).mono fun e w' ⟨v, l, q1, q2, q3, q4, q5, q6⟩ => by
      obtain ⟨a, n, c, rfl⟩ : ∃ a n c, v = .slice a n c := by rcases q5.row with ⟨rfl, _⟩ | ⟨_, _, _, rfl, _⟩ <;> exact ⟨_, _, _, rfl⟩
      refine ⟨a, n, c, l, q1, ⟨q2, q3⟩, q5.row, ?_, q6⟩
      intro g e
      obtain ⟨_, ⟨e', _⟩ | ⟨g', c, cur, e', r3, r4, _⟩⟩ := q5
      · rw [e'] at e; cases e
      · rw [e'] at e; cases e; exact ⟨r3, (Array.getElem?_eq_some_iff.1 r4).1⟩
  obtain ⟨i0, hi0, hz0, hz1, hz2⟩ := info_parts infoSl
  clear h1
  go_loopg [13, 14] Ns.length (fun gk s13 s14 wx => ∃ (j : Nat) (vs : List Value) (ls : List (List Int)), j + gk = Ns.length ∧ s14 = .int .i64 j ∧ vs.length = j ∧ Below wb.heap.size wb wx ∧ Was wb wx s13 vs ls ∧ ∀ (k : Nat) nm l, Ns[k]? = some nm → ls[k]? = some l → Heard (addA (runA X) (tl f) i) nm l)
  case atStart => exact ⟨0, [], [], by omega, rfl, rfl, Below.refl _ _, Was.start _ _, by simp⟩
  case round =>
    obtain ⟨j, vs, ls, hjg, rfl, hvl, hB, hW, hH⟩ := hrel
    cases gk with
    | zero =>
      obtain rfl : j = Ns.length := by omega
      obtain ⟨aw, cw, rfl, _⟩ := hW.cell
      have KG : Hid (Calls Tryd.prog 5 #[.pointer (some ⟨t, 0, none⟩), .string g, .int .i64 i] wr fun e w' => (∃ b, e = .returned (.bool b)) ∧ Has w w' t (addA (addA (runA X) (tl f) i) (tl g) i) (X.length * 65537 + 65537 + 65537) ∧ Was wb w' (.slice aw vs.length cw) vs ls) := by
        obtain ⟨q1, nd, own, n, v, q2, _⟩ := h2
        have hBw : Below w.heap.size w wr := hbw.trans (hB.mono hbw.size)
        refine (add_any (q2.below hB) hBw.size g hg (hT.from (Nat.le_refl _) hBw) i hi (by unfold maxLen; omega)).mono fun e w' ⟨r1, ⟨nd', own', n', r2, r3⟩, r4⟩ => ?_
        refine ⟨⟨_, r1⟩, ⟨⟨r4.os.trans hBw.os, r4.tape.trans hBw.tape, r4.output.trans hBw.output, Nat.le_trans hBw.size r4.size, fun k hk => ?_⟩, nd', own', n', r2⟩, hW.but r4 (fun k hk c => ?_)⟩
        · exact (r4.block k (by have := hBw.size; omega) (fun c => by have := q2.bas k c; omega)).trans (hBw.block k hk)
        · have := q2.g.lt k c; omega
      have hA2 : (addA (addA (runA X) (tl f) i) (tl g) i).length ≤ X.length + 2 := by have : (addA (addA (runA X) (tl f) i) (tl g) i).length ≤ (addA (runA X) (tl f) i).length + 1 := by { rw [addA]; split <;> simp }; omega
      have KA := Lib.hid awake_any
      have KS := Lib.hid same_any
      have KCv := Lib.hid (rcovers_any f g)
      cases hcv : coversR (tl f) (tl g) with
      | false =>
        rw [hcv] at KCv
        go_wp2_with (first
          | (go_at_call 5; refine KG.out.mono ?_; rintro e w3 ⟨⟨b3, rfl⟩, h3, hW3⟩)
          | (go_at_call 7; refine (KCv.out _ hf hg (hT.from (Nat.le_refl _) h3.1)).mono ?_; rintro e w4 ⟨rfl, h4⟩; have h5 := h3.1.trans (h4.mono h3.1.size))
          | (go_at_call 8; refine (KA.out _ (hT.from (Nat.le_refl _) h5)).mono ?_; rintro e w6 ⟨rfl, h6⟩))
        go_ret
        exact ⟨rfl, h5.trans (h6.mono h5.size)⟩
      | true =>
        rw [hcv] at KCv
        go_wp2_with (first
          | (go_at_call 5; refine KG.out.mono ?_; rintro e w3 ⟨⟨b3, rfl⟩, h3, hW3⟩)
          | (go_at_call 7; refine (KCv.out _ hf hg (hT.from (Nat.le_refl _) h3.1)).mono ?_; rintro e w4 ⟨rfl, h4⟩))
        have H3 := Lib.hid (h3.below h4)
        have hW4 := hW3.below h4
        have hb4 := H3.out.1
        clear h3 hW3 KG KM hW hB h4 HH h2 KCv
        have KM : Hid (∀ W (j : Nat) (hj : j < Ns.length), Below w4.heap.size w4 W → Calls Tryd.prog 6 #[.pointer (some ⟨t, 0, none⟩), .string Ns[j]] W.drew fun e w' => ∃ a n c l, e = .returned (.slice a n c) ∧ Heard (addA (addA (runA X) (tl f) i) (tl g) i) Ns[j] l ∧ IntRow w' (.slice a n c) l ∧ l.length ≤ X.length + 2 ∧ Below w4.heap.size w4 w') := fun W j hj hW =>
          (has_match (H3.out.below (Below.drew hW)) hT Ns[j] (hNs _ (List.getElem_mem hj)) (by unfold maxLen; omega) (by omega)).mono fun e w' ⟨v, l, q1, q2, q3, q4, q5, q6⟩ => by
            obtain ⟨a, n, c, rfl⟩ : ∃ a n c, v = .slice a n c := by rcases q5.row with ⟨rfl, _⟩ | ⟨_, _, _, rfl, _⟩ <;> exact ⟨_, _, _, rfl⟩
            exact ⟨a, n, c, l, q1, ⟨q2, q3⟩, q5.row, by omega, (Below.drew hW).trans (q6.mono (Below.drew hW).size)⟩
        go_loopg [15] Ns.length (fun gk s15 wx => ∃ j : Nat, j + gk = Ns.length ∧ s15 = .int .i64 j ∧ Below w4.heap.size w4 wx)
        case atStart => exact ⟨0, by omega, rfl, Below.refl _ _⟩
        case round =>
          obtain ⟨j, hjg2, rfl, hB⟩ := hrel
          have hBw : Below w.heap.size w wr := hb4.trans (hB.mono hb4.size)
          cases gk with
          | zero =>
            obtain rfl : j = Ns.length := by omega
            go_wp2_with (first
              | (go_at_call 8; refine (KA.out _ (hT.from (Nat.le_refl _) hBw)).mono ?_; rintro e w6 ⟨rfl, h6⟩))
            go_ret
            exact ⟨rfl, hBw.trans (h6.mono hBw.size)⟩
          | succ gq =>
            have hj : j < Ns.length := by omega
            have hj' : ((j : Nat) : Int) < (Ns.length : Int) := by omega
            obtain ⟨gN, oN, cN, e0, hgN, hcN⟩ := hN.resolve_left (fun h0 => by rw [h0.2] at hj; simp at hj)
            simp only [Value.slice.injEq, true_and] at e0
            obtain ⟨rfl, rfl⟩ := e0
            obtain ⟨vj, hvj⟩ : ∃ v, vs[j]? = some v := ⟨_, List.getElem?_eq_getElem (by omega)⟩
            obtain ⟨lj, hlj⟩ : ∃ l, ls[j]? = some l := ⟨_, List.getElem?_eq_getElem (by have := hW4.len; omega)⟩
            have hrj := hW4.ints j vj lj hvj hlj
            obtain ⟨a3, n3, c3, rfl⟩ : ∃ a n c, vj = .slice a n c := by rcases hrj with ⟨rfl, _⟩ | ⟨_, _, _, rfl, _⟩ <;> exact ⟨_, _, _, rfl⟩
            obtain ⟨_, _, ew, hwc⟩ := hW4.cell
            cases ew
            obtain ⟨gw, rfl, hcw⟩ := hwc j _ hvj
            have hgw : gw < w4.heap.size := hW4.lt gw rfl
            have KC : Hid (∀ W, Below w4.heap.size w4 W → W.cell? ⟨gN, oN + j, none⟩ = some (.string Ns[j]) ∧ W.cell? ⟨gw, j, none⟩ = some (.slice a3 n3 c3)) := fun W hW => by
              refine ⟨(hcN.below (hb4.trans (hW.mono hb4.size)) hgN) j _ (List.getElem?_eq_getElem hj), ?_⟩
              unfold World.cell? at hcw ⊢
              rw [hW.block gw hgw]; exact hcw
            obtain ⟨x0, x1⟩ := KC.out wr hB
            have KMj := Lib.hid (KM.out wr j hj hB)
            have HE : Hid (∀ l, Heard (addA (addA (runA X) (tl f) i) (tl g) i) Ns[j] l → l = lj) := fun l hl => by
              refine hl.eq (hH j _ _ (List.getElem?_eq_getElem hj) hlj) (fun hn k => ?_)
              exact covered_hears HS hi hcv (tl Ns[j]) hn k
            have KSj : Hid (∀ W a n c l, l = lj → l.length ≤ X.length + 2 → IntRow W (.slice a n c) l → Below w4.heap.size w4 W → Calls Tryd.prog 9 #[.slice a n c, .slice a3 n3 c3] W fun e w' => e = .returned (.bool true) ∧ Below w4.heap.size w4 w') := fun W a n c l e hll hr hW => by
              subst e
              refine (KS.out (.slice a n c) (.slice a3 n3 c3) l l W hr (hrj.below hW) (by omega)).mono fun e w' ⟨r1, r2⟩ => ⟨by rw [r1, decide_eq_true rfl], hW.trans (r2.mono hW.size)⟩
            clear KM KS hcw hwc hrj
            go_wp2_with fail
            go_region_held3 (fun W => W.cell? ⟨gN, oN + j, none⟩ = some (.string Ns[j]) ∧ W.cell? ⟨gw, j, none⟩ = some (.slice a3 n3 c3)) (first | with_reducible assumption | with_reducible exact ⟨z0, z1⟩ | with_reducible exact ⟨y0, y1⟩ | exact ⟨x0, x1⟩) (first
              | (go_at_call 6; refine KMj.out.mono ?_; rintro e w5 ⟨a5, n5, c5, l5, rfl, q1, q2, q3, q4⟩; obtain ⟨y0, y1⟩ := KC.out _ q4; replace q1 := HE.out _ q1)
              | (go_at_call 9; refine (KSj.out _ _ _ _ _ q1 q3 q2 q4).mono ?_; rintro e w6 ⟨rfl, h6⟩; obtain ⟨z0, z1⟩ := KC.out _ h6))
            go_wp2
            go_roundg gq
            case measure => omega
            case rel => exact ⟨j + 1, by omega, by first | rfl | rw [wrap64_nat (by omega)] | simp, h6⟩
    | succ gq =>
      subst hvl
      have hj : vs.length < Ns.length := by omega
      have hj' : ((vs.length : Nat) : Int) < (Ns.length : Int) := by omega
      obtain ⟨gN, oN, cN, e0, hgN, hcN⟩ := hN.resolve_left (fun h0 => by rw [h0.2] at hj; simp at hj)
      simp only [Value.slice.injEq, true_and] at e0
      obtain ⟨rfl, rfl⟩ := e0
      have hBw : Below w.heap.size w wr := hbw.trans (hB.mono hbw.size)
      have x0 : wr.cell? ⟨gN, oN + vs.length, none⟩ = some (.string Ns[vs.length]) := (hcN.below hBw hgN) vs.length _ (List.getElem?_eq_getElem hj)
      have KMj := Lib.hid (KM.out wr vs.length hj hB)
      obtain ⟨aw, cw, rfl, hwc⟩ := hW.cell
      have WM : Hid (∀ (w2 : World) v l, Below wr.heap.size wr w2 → IntRow w2 v l → (∀ g, v.ownBlock = some g → wr.heap.size ≤ g ∧ g < w2.heap.size) → ∀ w4 v4, w4.ownsRow wb.heap.size 30 1 v4 (vs.length + 1) (vs ++ [v]) → (w2.alloc (.cells #[v] 30)).grownBy w4 (Value.slice aw vs.length cw).ownBlock → (v4.ownBlock = (Value.slice aw vs.length cw).ownBlock ∨ v4.ownBlock = some (w2.alloc (.cells #[v] 30)).heap.size) →
          Was wb w4 v4 (vs ++ [v]) (ls ++ [l]) ∧ Below wb.heap.size wb w4) := fun w2 v l k1 k2 k3 w4 v4 k4 k5 k6 => by
        have hal := below1 w2 (.cells #[v] 30)
        have hBA : Below wr.heap.size wr (w2.alloc (.cells #[v] 30)) := k1.trans (hal.mono k1.size)
        have hWA := hW.below hBA
        have hBt : But (fun k => (Value.slice aw vs.length cw).ownBlock = some k) (w2.alloc (.cells #[v] 30)) w4 := But.grown (C := fun k => (Value.slice aw vs.length cw).ownBlock = some k) k5 (fun k e _ => e)
        have hsz := hB.size
        have hsz2 := hal.size
        refine ⟨hWA.more (k2.below hal) (fun g e => ?_) k4 hBt (k6.imp_right fun q g e => ?_), ?_⟩
        · obtain ⟨r1, r2⟩ := k3 g e
          exact ⟨by omega, by omega, fun c => by have := hW.lt g c; omega⟩
        · rw [q] at e; cases e; exact Nat.le_refl _
        · have hw0 : ∀ g, (Value.slice aw vs.length cw).ownBlock = some g → wb.heap.size ≤ g := fun g e => by
            obtain ⟨_, ⟨e', _⟩ | ⟨g', c, cur, e', h3, _⟩⟩ := hW.row
            · rw [e'] at e; cases e
            · rw [e'] at e; cases e; exact h3
          have hB2 := hB.trans (hBA.mono hsz)
          exact ⟨hBt.os.trans hB2.os, hBt.tape.trans hB2.tape, hBt.output.trans hB2.output, Nat.le_trans hB2.size hBt.size, fun k hk => (hBt.block k (by have := hB2.size; omega) (fun c => by have := hw0 k c; omega)).trans (hB2.block k hk)⟩
      have O2 : Hid (∀ w2 v, Below wr.heap.size wr w2 → (w2.alloc (.cells #[v] 30)).ownsRow wb.heap.size 30 1 (Value.slice aw vs.length cw) vs.length vs ∧ wb.heap.size ≤ (w2.alloc (.cells #[v] 30)).heap.size) := fun w2 v k1 => by
        have hal := below1 w2 (.cells #[v] 30)
        have hBA : Below wr.heap.size wr (w2.alloc (.cells #[v] 30)) := k1.trans (hal.mono k1.size)
        exact ⟨(hW.below hBA).row, Nat.le_trans hB.size hBA.size⟩
      have hone : ∀ (v : Value) w2 l, IntRow w2 v l → ∀ u ∈ [v], u.oneCell' = true := fun v w2 l h u hu => by
        rw [List.mem_singleton] at hu; subst hu
        rcases h with ⟨rfl, _⟩ | ⟨_, _, _, rfl, _⟩ <;> rfl
      go_wp2_with (first
        | (go_at_call 6; refine KMj.out.mono ?_; rintro e w2 ⟨a2, n2, c2, l2, rfl, q1, q2, q3, q4⟩)
        | (at_builtin; refine wpList_append_own_at _ rfl _ _ 29 rfl wb.heap.size 30 i0 (.slice none 0 0) 1 24 Tryd.underlying29 hi0 hz0 hz1 hz2 rfl (by decide) (.slice aw vs.length cw) _ _ rfl (O2.out _ _ q4).1 ⟨w2.heap.size, 0, none⟩ 1 1 [.slice a2 n2 c2] rfl rfl (cell_one_new _ _ _) (hone _ _ _ q2) (by unfold maxLen; omega) (by omega) (O2.out _ _ q4).2 ?_; intro v4 w4 ho4 hg4 hn4 ha4))
      obtain ⟨z1, z2⟩ := WM.out _ _ _ q4 q2 q3 _ _ ho4 hg4 ha4
      go_roundg gq
      case measure => omega
      case rel =>
        refine ⟨vs.length + 1, vs ++ [.slice a2 n2 c2], ls ++ [l2], by omega, by first | rfl | rw [wrap64_nat (by omega)] | simp, by simp, z2, z1, fun k nm l h1 h2 => ?_⟩
        by_cases hk : k < ls.length
        · rw [List.getElem?_append_left hk] at h2; exact hH k nm l h1 h2
        · rw [List.getElem?_append_right (by omega)] at h2
          have : k - ls.length = 0 := by have := (List.getElem?_eq_some_iff.1 h2).1; simp at this; omega
          rw [this] at h2; simp at h2; subst h2
          obtain rfl : k = vs.length := by have := hW.len; omega
          rw [List.getElem?_eq_getElem hj] at h1; cases h1; exact q1
end Go.Proofs.YtnlplnlclnbdiaaDoor
