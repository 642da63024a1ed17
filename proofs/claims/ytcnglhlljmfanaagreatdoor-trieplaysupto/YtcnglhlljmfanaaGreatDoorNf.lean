/- The document's list: Nodes; no condition but those that each theorem names. -/
import Derived.Test.YtcnglhlljmfanaaGreatDoorNd
import Derived.Test.YtcnglhlljmfanaaGreatDoorRb
namespace Go.Proofs.YtcnglhlljmfanaaGreatDoor
open Go.RowKit Tp Go.Maps Go.Shelf

theorem infoSlS : (Tryz.prog.info? 47).map (fun i => (i.zero, i.size, i.bytes)) = some (some (.slice none 0 0), 1, 24) := by kernel_rfl

/-- Rows of texts, kept in a row of their own, all new since B. -/
structure Sn (B : Nat) (W : World) (wv : Value) (vs : List Value) (ls : List (List Bs)) : Prop where
  row : W.ownsRow B 47 1 wv vs.length vs
  len : vs.length = ls.length
  txts : ∀ (j : Nat) (v : Value) (l : List Bs), vs[j]? = some v → ls[j]? = some l → TextRow W v l
  apart : ∀ (j : Nat) (v : Value) (g : Nat), vs[j]? = some v → v.ownBlock = some g → g < W.heap.size ∧ wv.ownBlock ≠ some g
theorem Sn.start (B : Nat) (W : World) : Sn B W (.slice none 0 0) [] [] := ⟨World.ownsRow_nil _ _ _ _, rfl, by simp, by simp⟩
theorem Sn.below {B : Nat} {W W' : World} {wv : Value} {vs : List Value} {ls : List (List Bs)} (h : Sn B W wv vs ls) (hB : Below W.heap.size W W') : Sn B W' wv vs ls :=
  ⟨row_below h.row hB, h.len, fun j v l h1 h2 => (h.txts j v l h1 h2).below hB, fun j v g h1 h2 => by obtain ⟨a, b⟩ := h.apart j v g h1 h2; exact ⟨Nat.lt_of_lt_of_le a hB.size, b⟩⟩
theorem Sn.lt {B : Nat} {W : World} {wv : Value} {vs : List Value} {ls : List (List Bs)} (h : Sn B W wv vs ls) : ∀ g, wv.ownBlock = some g → B ≤ g ∧ g < W.heap.size := fun g e => by
  obtain ⟨h1, ⟨rfl, _⟩ | ⟨g', c, cur, rfl, h3, h4, h5⟩⟩ := h.row
  · cases e
  · cases e; exact ⟨h3, (Array.getElem?_eq_some_iff.1 h4).1⟩
theorem Sn.more {B : Nat} {W W' : World} {wv wv' v : Value} {vs : List Value} {ls : List (List Bs)} {l : List Bs} (h : Sn B W wv vs ls) (hv : TextRow W v l) (hvb : ∀ g, v.ownBlock = some g → g < W.heap.size ∧ wv.ownBlock ≠ some g)
    (ho : W'.ownsRow B 47 1 wv' (vs.length + 1) (vs ++ [v])) (hB : But (fun k => wv.ownBlock = some k) W W') (hat : wv'.ownBlock = wv.ownBlock ∨ ∀ g, wv'.ownBlock = some g → W.heap.size ≤ g) : Sn B W' wv' (vs ++ [v]) (ls ++ [l]) := by
  have hap : ∀ g, g < W.heap.size ∧ wv.ownBlock ≠ some g → g < W'.heap.size ∧ wv'.ownBlock ≠ some g := fun g ⟨b, c⟩ => by
    refine ⟨Nat.lt_of_lt_of_le b hB.size, fun e => ?_⟩
    rcases hat with h1 | h1
    · exact c (h1 ▸ e)
    · have := h1 g e; omega
  have split : ∀ (j : Nat) (u : Value), (vs ++ [v])[j]? = some u → (j < vs.length ∧ vs[j]? = some u) ∨ (j = vs.length ∧ u = v) := fun j u hj => by
    by_cases hlt : j < vs.length
    · rw [List.getElem?_append_left hlt] at hj; exact .inl ⟨hlt, hj⟩
    · rw [List.getElem?_append_right (by omega)] at hj
      have : j - vs.length = 0 := by have := (List.getElem?_eq_some_iff.1 hj).1; simp at this; omega
      rw [this] at hj; simp at hj; exact .inr ⟨by omega, hj.symm⟩
  refine ⟨by simpa using ho, by simp [h.len], fun j u l' h1 h2 => ?_, fun j u g h1 h2 => ?_⟩
  · rcases split j u h1 with ⟨a, b⟩ | ⟨a, rfl⟩
    · rw [List.getElem?_append_left (by rw [← h.len]; exact a)] at h2
      exact (h.txts j u l' b h2).but hB (fun g e c => (h.apart j u g b e).2 c)
    · rw [a, List.getElem?_append_right (by rw [h.len]; exact Nat.le_refl _), h.len] at h2
      simp at h2; subst h2
      exact hv.but hB (fun g e c => (hvb g e).2 c)
  · rcases split j u h1 with ⟨a, b⟩ | ⟨a, rfl⟩
    · exact hap g (h.apart j u g b h2)
    · exact hap g (hvb g h2)

theorem own_cell2 {W : World} {B : Nat} {e : TypeId} {a : Option Addr} {n c : Nat} {xs : List Value} (h : W.ownsRow B e 1 (.slice a n c) n xs) : ∀ (j : Nat) (u : Value), xs[j]? = some u → ∃ g, a = some ⟨g, 0, none⟩ ∧ g < W.heap.size ∧ W.cell? ⟨g, j, none⟩ = some u := fun j u hj => by
  have hjl := (List.getElem?_eq_some_iff.1 hj).1
  obtain ⟨h1, ⟨e0, h0⟩ | ⟨g, cp, cur, e0, h3, h4, h5, h6, h7, h8⟩⟩ := h
  · omega
  · simp only [Value.slice.injEq, true_and] at e0
    obtain ⟨rfl, rfl⟩ := e0
    refine ⟨g, rfl, (Array.getElem?_eq_some_iff.1 h4).1, ?_⟩
    rw [cell_at h4 j]
    rw [← h8, List.getElem?_take_of_lt (by omega)] at hj
    simpa using hj

section
variable {w : World} {lb B : Nat} {v : Value} {A : List (Bs × Int)}

set_option maxRecDepth 100000 in
set_option maxHeartbeats 4000000 in
theorem lnodes_any (h : ListAt w lb B v A) (hs : ∀ e ∈ A, e.1.length ≤ 65535) (hA : A.length ≤ 1048576) :
    Calls Tryz.prog 22 #[.pointer (some ⟨lb, 0, none⟩)] w fun e w' => (∃ ps, e = .returned (.int .i64 (ps.length : Nat)) ∧ Lvl (A.map fun e => lvs e.1) ps) ∧ Below w.heap.size w w' := by
  obtain ⟨av, cv, rfl, hcl⟩ := list_cells h
  have CL := Lib.hid hcl
  have c0 := (hcl w (Below.refl _ _)).1
  have KL : Hid (∀ W (j : Nat) (hj : j < A.length), Calls Tryz.prog 45 #[.string (bs A[j].1)] W fun e w' => ∃ a c, e = .returned (.slice a (lvs A[j].1).length c) ∧ TextsAt w' W.heap.size (.slice a (lvs A[j].1).length c) (lvs A[j].1) ∧ Below W.heap.size W w') := fun W j hj => by
    have h1 := hs A[j] (List.getElem_mem hj)
    refine (rlevels_any (bs A[j].1) W (by rw [← tl_size, tl_bs]; omega)).mono fun e w' ⟨u, q1, q2, q3⟩ => ?_
    rw [tl_bs, List.map_map, List.length_map] at q2
    obtain ⟨a, c, rfl⟩ := row_slice q2
    exact ⟨a, c, q1, q2, q3⟩
  have KC := Lib.hid common_any
  obtain ⟨i0, hi0, hz0, hz1, hz2⟩ := info_parts infoSlS
  clear h hcl
  go_enter Tryz.func22, Tryz.ntmps22
  go_wp2
  go_loopg [3, 4, 5] A.length (fun gk s3 s4 s5 wx => ∃ (j : Nat) (vs : List Value) (ps : List Pth) (a : Option Addr) (c : Nat), j + gk = A.length ∧ s5 = .int .i64 j ∧ s4 = .int .i64 (ps.length : Nat) ∧ s3 = .slice a vs.length c ∧ vs.length = j ∧ Below w.heap.size w wx ∧ Sn w.heap.size wx (.slice a vs.length c) vs ((A.take j).map fun e => lvs e.1) ∧ Lvl ((A.take j).map fun e => lvs e.1) ps ∧ ps.length ≤ j * 65536)
  case atStart => exact ⟨0, [], [], none, 0, by omega, rfl, rfl, rfl, rfl, Below.refl _ _, Sn.start _ _, Lvl.nil, by simp⟩
  case round =>
    obtain ⟨j, vs, ps, a, c, hjg, rfl, rfl, rfl, hvl, hB, hS, hL, hpl⟩ := hrel
    obtain ⟨c1, hcj⟩ := CL.out wr hB
    cases gk with
    | zero =>
      obtain rfl : j = A.length := by omega
      rw [List.take_length] at hL
      have HL := Lib.hid hL
      clear hS hL hcj
      go_wp2
      go_ret
      exact ⟨⟨ps, rfl, HL.out⟩, hB⟩
    | succ gq =>
      subst hvl
      have hj : vs.length < A.length := by omega
      have hj' : ((vs.length : Nat) : Int) < (A.length : Int) := by omega
      obtain ⟨g, rfl, k1, k2⟩ := hcj vs.length hj
      have KLj := Lib.hid (KL.out wr vs.length hj)
      have hlen : (lvs A[vs.length].1).length ≤ 65536 := by have := lvs_len A[vs.length].1; have := hs _ (List.getElem_mem hj); have := List.count_le_length (a := (47 : UInt8)) (l := A[vs.length].1); omega
      have HS := Lib.hid hS
      have HL := Lib.hid hL
      clear hcj hS hL KL
      go_wp2_with (first
        | (go_at_call 45; refine KLj.out.mono ?_; rintro e w2 ⟨a2, c2, rfl, q1, q2⟩))
      have HS2 : Hid (Sn w.heap.size w2 (.slice a vs.length c) vs ((A.take vs.length).map fun e => lvs e.1)) := HS.out.below q2
      have HQ := Lib.hid q1
      have hB2 : Below w.heap.size w w2 := hB.trans (q2.mono hB.size)
      have hvr : Hid (TextRow w2 (.slice a2 (lvs A[vs.length].1).length c2) (lvs A[vs.length].1)) := TextsAt.row q1
      clear q1
      have hwrs : ∃ w', w' = wr := ⟨_, rfl⟩
      obtain ⟨wr', hwr'⟩ := hwrs
      rw [← hwr'] at HQ HS
      generalize hl : lvs A[vs.length].1 = l at *
      generalize hms : ((A.take vs.length).map fun e => lvs e.1) = ms at *
      have hml : ms.length = vs.length := by rw [← hms]; simp; omega
      go_loopg [7, 8] vs.length (fun gk s7 s8 wy => ∃ q : Nat, q + gk = vs.length ∧ s8 = .int .i64 q ∧ s7 = .int .i64 (had l (ms.take q) : Nat) ∧ Below w2.heap.size w2 wy)
      case atStart => exact ⟨0, by omega, rfl, rfl, Below.refl _ _⟩
      case round =>
        obtain ⟨q, hqg, rfl, rfl, hB3⟩ := hrel
        have hh := (had_spec l (ms.take q)).2.2
        cases gk with
        | zero =>
          obtain rfl : q = vs.length := by omega
          rw [List.take_of_length_le (by omega)] at hh ⊢
          obtain ⟨ps', L1, L2⟩ := HL.out.snoc l
          have hSw := HS2.out.below hB3
          have hB4 : Below w.heap.size w wr := hB2.trans (hB3.mono hB2.size)
          have htr := hvr.out.below hB3
          have hvb : ∀ g, (Value.slice a2 l.length c2).ownBlock = some g → wr'.heap.size ≤ g ∧ g < w2.heap.size := fun g e => by
            obtain ⟨_, ⟨e', _⟩ | ⟨g', c', cur, e', r3, r4, _⟩⟩ := HQ.out
            · rw [e'] at e; cases e
            · rw [e'] at e; cases e; exact ⟨r3, (Array.getElem?_eq_some_iff.1 r4).1⟩
          have O2 : Hid ((wr.alloc (.cells #[.slice a2 l.length c2] 47)).ownsRow w.heap.size 47 1 (.slice a vs.length c) vs.length vs ∧ w.heap.size ≤ (wr.alloc (.cells #[.slice a2 l.length c2] 47)).heap.size) := ⟨(hSw.below (below1 _ _)).row, by have := hB4.size; simp; omega⟩
          have WM : Hid (∀ w4 v4, w4.ownsRow w.heap.size 47 1 v4 (vs.length + 1) (vs ++ [.slice a2 l.length c2]) → (wr.alloc (.cells #[.slice a2 l.length c2] 47)).grownBy w4 (Value.slice a vs.length c).ownBlock → (v4.ownBlock = (Value.slice a vs.length c).ownBlock ∨ v4.ownBlock = some (wr.alloc (.cells #[.slice a2 l.length c2] 47)).heap.size) →
              Sn w.heap.size w4 v4 (vs ++ [.slice a2 l.length c2]) (ms ++ [l]) ∧ Below w.heap.size w w4) := fun w4 v4 k4 k5 k6 => by
            have hal := below1 wr (.cells #[.slice a2 l.length c2] 47)
            have hWA := hSw.below hal
            have hBt : But (fun k => (Value.slice a vs.length c).ownBlock = some k) (wr.alloc (.cells #[.slice a2 l.length c2] 47)) w4 := But.grown (C := fun k => (Value.slice a vs.length c).ownBlock = some k) k5 (fun k e _ => e)
            refine ⟨hWA.more (htr.below hal) (fun g e => ?_) k4 hBt (k6.imp_right fun q g e => ?_), below_row (hB4.trans (hal.mono hB4.size)) k5 (fun g e => (hWA.lt g e).1)⟩
            · obtain ⟨r1, r2⟩ := hvb g e
              refine ⟨by have := hB3.size; have := hal.size; omega, fun c => ?_⟩
              have := (HS.out.lt g c).2
              omega
            · rw [q] at e; cases e; exact Nat.le_refl _
          have hone : ∀ u ∈ [Value.slice a2 l.length c2], u.oneCell' = true := by simp [Value.oneCell']
          have w1 : IntKind.i64.wrap (((ps.length : Nat) : Int) + (l.length : Nat)) = ((ps.length + l.length : Nat) : Int) := by rw [IntWalk.i64_left]; exact IntWalk.wrap64_in _ (by omega)
          have w2' : IntKind.i64.wrap (((ps.length + l.length : Nat) : Int) - (had l ms : Nat)) = ((ps.length + (l.length - had l ms) : Nat) : Int) := by rw [IntWalk.i64_left]; rw [IntWalk.wrap64_in _ (by omega)]; omega
          clear hSw htr hvb
          go_wp2_with (first
            | (at_builtin; refine wpList_append_own_at _ rfl _ _ 75 rfl w.heap.size 47 i0 (.slice none 0 0) 1 24 Tryz.underlying75 hi0 hz0 hz1 hz2 rfl (by decide) (.slice a vs.length c) _ _ rfl O2.out.1 ⟨wr.heap.size, 0, none⟩ 1 1 [.slice a2 l.length c2] rfl rfl (cell_one_new _ _ _) hone (by unfold maxLen; omega) (by omega) O2.out.2 ?_; intro v4 w4 ho4 hg4 hn4 ha4; obtain ⟨z1, z2⟩ := WM.out _ _ ho4 hg4 ha4; obtain ⟨b4, d4, rfl⟩ := row_slice ho4; have Z1 := Lib.hid z1; clear z1 ho4 hg4 hn4 ha4))
          go_roundg gq
          case measure => omega
          case rel =>
            have etk : (A.take (vs.length + 1)).map (fun e => lvs e.1) = ms ++ [l] := by rw [List.take_succ_eq_append_getElem hj, List.map_append, hms]; simp [hl]
            refine ⟨vs.length + 1, vs ++ [.slice a2 l.length c2], ps', b4, d4, by omega, by first | rfl | rw [wrap64_nat (by omega)] | simp, ?_, by simp, by simp, z2, by rw [etk]; simpa using Z1.out, by rw [etk]; exact L1, by omega⟩
            rw [L2]; congr 1; omega
        | succ gp =>
          have hq : q < vs.length := by omega
          have hq' : ((q : Nat) : Int) < (vs.length : Int) := by omega
          have hSw := HS2.out.below hB3
          obtain ⟨gs, e3, hgs, hcs⟩ := own_cell2 hSw.row q vs[q] (List.getElem?_eq_getElem hq)
          cases e3
          have htr := hSw.txts q vs[q] ms[q] (List.getElem?_eq_getElem hq) (List.getElem?_eq_getElem (by omega))
          obtain ⟨a3, n3, c3, e3⟩ : ∃ a n c, vs[q] = .slice a n c := by rcases htr with ⟨h, _⟩ | ⟨_, _, _, h, _⟩ <;> exact ⟨_, _, _, h⟩
          rw [e3] at hcs htr
          have KCq := Lib.hid (KC.out _ _ l ms[q] wr (hvr.out.below hB3) htr (by omega))
          have hsn := had_snoc l (ms.take q) ms[q]
          rw [← List.take_succ_eq_append_getElem (by omega)] at hsn
          have HSN := Lib.hid hsn
          have hcm := (com_spec l ms[q]).1
          clear hsn htr hSw e3
          go_wp2_with (first
            | (go_at_call 46; refine KCq.out.mono ?_; rintro e w3 ⟨rfl, p1⟩))
          go_roundg gp
          case measure => omega
          case rel => exact ⟨q + 1, by omega, by first | rfl | rw [wrap64_nat (by omega)] | simp, by rw [HSN.out]; congr 1; omega, hB3.trans (p1.mono hB3.size)⟩
end
end Go.Proofs.YtcnglhlljmfanaaGreatDoor
