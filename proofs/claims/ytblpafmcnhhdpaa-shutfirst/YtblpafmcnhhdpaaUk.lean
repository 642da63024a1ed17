/- The law's reached, walked: what ways lead to; the conditions that each theorem names. -/
import Derived.Test.YtblpafmcnhhdpaaUj
import Derived.Deep.AppendLies
namespace Go.Proofs.Ytblpafmcnhhdpaa
open Go.RowKit

/-- What a search has found, and of how many it has gone through the lists. -/
structure Sf (A : List (List Int)) (i : Nat) (l : List Nat) (q : Nat) : Prop where
  to : ∀ y ∈ l, Rc A i y
  nd : l.Nodup
  out : ∀ (p x : Nat), p < q → (i :: l)[p]? = some x → ∀ y, Ed A x y → y ∈ l
theorem Sf.nil (A : List (List Int)) (i : Nat) : Sf A i [] 0 := ⟨fun y h => by simp at h, List.nodup_nil, fun p x h => by omega⟩
theorem Sf.lt {A : List (List Int)} {i : Nat} {l : List Nat} {q : Nat} (h : Sf A i l q) : ∀ y ∈ l, y < A.length := fun y hy => by
  obtain ⟨m, hm⟩ := h.to y hy
  exact hm.lt
theorem Sf.len {A : List (List Int)} {i : Nat} {l : List Nat} {q : Nat} (h : Sf A i l q) : l.length ≤ A.length := nodup_len _ _ h.nd h.lt
theorem Sf.add {A : List (List Int)} {i : Nat} {l : List Nat} {q x y : Nat} (h : Sf A i l q) (hx : (i :: l)[q]? = some x) (he : Ed A x y) (hn : y ∉ l) : Sf A i (l ++ [y]) q := by
  refine ⟨fun z hz => ?_, ?_, fun p u hp hu z hz => ?_⟩
  · rcases List.mem_append.1 hz with hz | hz
    · exact h.to z hz
    · simp only [List.mem_singleton] at hz
      subst hz
      cases q with
      | zero => simp at hx; subst hx; exact ⟨0, he⟩
      | succ q => exact (h.to x (List.mem_of_getElem? (by simpa using hx))).step he
  · rw [List.nodup_append]
    refine ⟨h.nd, by simp, fun a ha b hb e => ?_⟩
    simp only [List.mem_singleton] at hb
    exact hn (by rw [← hb, ← e]; exact ha)
  · have hq := (List.getElem?_eq_some_iff.1 hx).1
    rw [show i :: (l ++ [y]) = (i :: l) ++ [y] from rfl, List.getElem?_append_left (by omega)] at hu
    exact List.mem_append_left _ (h.out p u hp hu z hz)
theorem Sf.next {A : List (List Int)} {i : Nat} {l : List Nat} {q x : Nat} (h : Sf A i l q) (hx : (i :: l)[q]? = some x) (ha : ∀ k ∈ (A[x]?).getD [], vd A.length x k = true → k.toNat ∈ l) : Sf A i l (q + 1) := by
  refine ⟨h.to, h.nd, fun p u hp hu z hz => ?_⟩
  by_cases e : p = q
  · subst e
    rw [hx] at hu
    obtain rfl := Option.some.inj hu
    obtain ⟨k, hk, hv, rfl⟩ := hz
    exact ha k hk hv
  · exact h.out p u (by omega) hu z hz
theorem Sf.done {A : List (List Int)} {i : Nat} {l : List Nat} (h : Sf A i l (l.length + 1)) (y : Nat) : y ∈ l ↔ Rc A i y := by
  refine ⟨h.to y, fun ⟨m, hm⟩ => ?_⟩
  have key : ∀ (m x : Nat), x ∈ i :: l → Rn A m x y → y ∈ l := by
    intro m
    induction m with
    | zero =>
      intro x hx he
      obtain ⟨p, hp⟩ := List.getElem?_of_mem hx
      have := (List.getElem?_eq_some_iff.1 hp).1
      exact h.out p x (by simpa using this) hp y he
    | succ m ih =>
      rintro x hx ⟨z, he, hr⟩
      obtain ⟨p, hp⟩ := List.getElem?_of_mem hx
      have := (List.getElem?_eq_some_iff.1 hp).1
      exact ih z (List.mem_cons_of_mem _ (h.out p x (by simpa using this) hp z he)) hr
  exact key m i (by simp) hm
/-- The search in memory. -/
structure Bq (w : World) (n : Nat) (sv vq : Value) (l : List Nat) (qs : List Int) (wx : World) : Prop where
  below : Below w.heap.size w wx
  d : Bf wx w.heap.size n (mf l)
  o : wx.ownsRow (w.heap.size + 1) 3 1 sv l.length (nv l)
  u : Qu wx (w.heap.size + 1) vq qs
  ne : ∀ g, sv.ownBlock = some g → vq.ownBlock = some g → False

theorem Qu.front0 {w : World} {base g off : Nat} {x : Int} {l : List Int} (h : Qu w base (.slice (some ⟨g, off, none⟩) (l.length + 1) 1) (x :: l)) (hl : l = []) : Qu w base (.slice (some ⟨g, off, none⟩) l.length 0) l := by
  subst hl
  obtain ⟨g', off', cap, cur, e, h1, h2, h3, h4, h5, h6⟩ := h
  simp only [Value.slice.injEq, Option.some.injEq, Addr.mk.injEq, and_true] at e
  obtain ⟨⟨rfl, rfl⟩, -, rfl⟩ := e
  exact ⟨g, off, 0, cur, rfl, h1, h2, Nat.le_refl _, by omega, by omega, fun j i hj => by simp at hj⟩
theorem Qu.ne {w : World} {base : Nat} {v : Value} {l : List Int} (h : Qu w base v l) {N : Nat} (hN : N < base) : v.ownBlock ≠ some N := fun e => by
  obtain ⟨g, h1, h2, -⟩ := h.lt
  rw [h1] at e
  have := Option.some.inj e
  omega
/-- In between: the first row has grown, the queue stands as it stood. -/
theorem Bq.mid {x1 x2 : Value} {T1 T2 : TypeId} {w wr w7 : World} {n k : Nat} {sv vq : Value} {l : List Nat} {qs : List Int} (h : Bq w n sv vq l qs wr) (gr7 : ((wr.setCell ⟨w.heap.size, k, none⟩ (.bool true)).alloc (.cells #[x1] T1)).grownBy w7 sv.ownBlock) : Qu (w7.alloc (.cells #[x2] T2)) (w.heap.size + 1) vq qs := by
  obtain ⟨gq, hq1, hq2, hq3⟩ := h.u.lt
  refine h.u.keep fun g e => ?_
  rw [hq1] at e
  obtain rfl := Option.some.inj e
  have h1 : (wr.setCell ⟨w.heap.size, k, none⟩ (.bool true)).heap[gq]? = wr.heap[gq]? := Below.heap_setCell _ _ _ _ (by show gq ≠ w.heap.size; omega)
  have h2 := gr7.block gq (by simp [World.setCell]; omega) (fun e2 => h.ne gq e2.symm hq1)
  have h3 : ((wr.setCell ⟨w.heap.size, k, none⟩ (.bool true)).alloc (.cells #[x1] T1)).heap[gq]? = (wr.setCell ⟨w.heap.size, k, none⟩ (.bool true)).heap[gq]? := (below1 _ _).block gq (by simp [World.setCell]; omega)
  have h4 : gq < w7.heap.size := by have := gr7.size; simp [World.setCell] at this; omega
  exact ((below1 w7 _).block gq h4).trans (h2.trans (h3.trans h1))
theorem Bq.put {x1 x2 : Value} {T1 T2 : TypeId} {w wr w7 w8 : World} {n k g2 c2 : Nat} {sv vq v8 : Value} {l : List Nat} {qs : List Int} (h : Bq w n sv vq l qs wr)
    (gr7 : ((wr.setCell ⟨w.heap.size, k, none⟩ (.bool true)).alloc (.cells #[x1] T1)).grownBy w7 sv.ownBlock) (own7 : w7.ownsRow (w.heap.size + 1) 3 1 (.slice (some ⟨g2, 0, none⟩) (l.length + 1) c2) (l.length + 1) (nv l ++ [.int .i64 (k : Int)]))
    (at7 : sv.ownBlock = some g2 ∨ g2 = ((wr.setCell ⟨w.heap.size, k, none⟩ (.bool true)).alloc (.cells #[x1] T1)).heap.size) (lt7 : g2 < w7.heap.size)
    (gr8 : (w7.alloc (.cells #[x2] T2)).grownBy w8 vq.ownBlock) (qu8 : Qu w8 (w.heap.size + 1) v8 (qs ++ [(k : Int)])) (at8 : v8.ownBlock = vq.ownBlock ∨ ∃ g, v8.ownBlock = some g ∧ (w7.alloc (.cells #[x2] T2)).heap.size ≤ g) :
    Bq w n (.slice (some ⟨g2, 0, none⟩) (l.length + 1) c2) v8 (l ++ [k]) (qs ++ [(k : Int)]) w8 := by
  obtain ⟨gq, hq1, hq2, hq3⟩ := h.u.lt
  have hne1 := own_ne h.o (N := w.heap.size) (by omega)
  have hne2 := h.u.ne (N := w.heap.size) (by omega)
  have hg2 : some g2 ≠ vq.ownBlock := by
    intro e
    rcases at7 with e1 | e1
    · exact h.ne g2 e1 e.symm
    · rw [hq1] at e
      have := Option.some.inj e
      simp [World.setCell] at e1
      omega
  have b6 : Below w.heap.size w (wr.setCell ⟨w.heap.size, k, none⟩ (.bool true)) := h.below.setCell (p := ⟨w.heap.size, k, none⟩) (Nat.le_refl _) _
  have b6a := b6.alloc b6.size (.cells #[x1] T1)
  have b7 : Below w.heap.size w w7 := ⟨gr7.os.trans b6a.os, gr7.tape.trans b6a.tape, gr7.output.trans b6a.output, Nat.le_trans b6a.size gr7.size, fun j hj => (gr7.block j (Nat.lt_of_lt_of_le hj b6a.size) (fun e => own_ne h.o (N := j) (by omega) e.symm)).trans (b6a.block j hj)⟩
  have b7a := b7.alloc b7.size (.cells #[x2] T2)
  have b8 : Below w.heap.size w w8 := ⟨gr8.os.trans b7a.os, gr8.tape.trans b7a.tape, gr8.output.trans b7a.output, Nat.le_trans b7a.size gr8.size, fun j hj => (gr8.block j (Nat.lt_of_lt_of_le hj b7a.size) (fun e => h.u.ne (N := j) (by omega) e.symm)).trans (b7a.block j hj)⟩
  have d6 : Bf (wr.setCell ⟨w.heap.size, k, none⟩ (.bool true)) w.heap.size n (mf (l ++ [k])) := h.d.set k (fun j _ => by
    simp only [mf, List.mem_append, List.mem_singleton]
    by_cases a : j ∈ l <;> by_cases b : j = k <;> simp [a, b])
  have d7 : Bf w7 w.heap.size n (mf (l ++ [k])) := Bk.grown (Bk.below d6 (below1 _ _)) gr7 hne1
  have d8 : Bf w8 w.heap.size n (mf (l ++ [k])) := Bk.grown (Bk.below d7 (below1 _ _)) gr8 hne2
  refine ⟨b8, d8, ?_, qu8, fun g e e2 => ?_⟩
  · have h1 := (own7.alloc (.cells #[x2] T2)).kept gr8 (.inr (fun e => hg2 e))
    rw [List.length_append]
    simpa using h1
  · obtain rfl : g2 = g := Option.some.inj e
    rcases at8 with e3 | ⟨g', e3, e4⟩
    · exact hg2 (e2.symm.trans e3)
    · rw [e3] at e2
      have := Option.some.inj e2
      simp at e4
      omega

set_option maxRecDepth 100000 in
set_option maxHeartbeats 4000000 in
theorem reached_any (A : List (List Int)) (ad : Option Addr) (cap : Nat) (i : Nat) (w : World) (h : Rj w ad A) (hi : i < A.length) (hl : A.length ≤ 400) (hll : ∀ l ∈ A, l.length ≤ 400) :
    Calls Try.prog 17 #[.slice ad A.length cap, .int .i64 i] w fun e w' => ∃ (sv : Value) (l : List Nat), e = .returned sv ∧ Ri w' sv (l.map fun (i : Nat) => (i : Int)) ∧ (∀ y, y ∈ l ↔ Rc A i y) ∧ l.length ≤ A.length ∧ Below w.heap.size w w' := by
  obtain ⟨i0, hi0, hz0, hz1, hz2⟩ := info_parts infoInt
  obtain ⟨i1, hi1, hy0, hy1, hy2⟩ := info_parts infoB
  have HS := Lib.hid h
  have HLL := Lib.hid hll
  clear h hll
  go_enter Try.func17, Try.ntmps17
  go_wp2_with (at_make; refine wpList_make_full _ rfl _ _ 32 rfl w.heap.size 4 i1 (.bool false) 1 Try.underlying32 hi1 hy0 hy1 _ _ _ _ A.length rfl rfl rfl rfl (by rw [hy2]; omega) (by unfold maxLen; omega) (Nat.le_refl _) ?_; intro w1 own1 gr1)
  have F1 := bf_made own1
  have b1 : Below w.heap.size w w1 := below_none gr1 (Nat.le_refl _)
  have hs1 := Bk.lt F1
  have hQ : Hid (Bq w A.length (.slice none 0 0) (.slice (some ⟨w1.heap.size, 0, none⟩) 1 1) [] [(i : Int)] (w1.alloc (.cells #[.int .i64 (i : Int)] 3))) := by
    have b2 := below1 w1 (.cells #[.int .i64 (i : Int)] 3)
    exact ⟨b1.trans (b2.mono b1.size), (show (fun _ => false) = mf [] by funext j; simp [mf]) ▸ F1.below b2, World.ownsRow_nil _ _ _ _, Qu.one w1 i _ (by omega), fun g e => by cases e⟩
  clear own1 gr1 F1 b1
  go_loopg [6, 7] (A.length + 1) (fun g s6 s7 wx => ∃ (l : List Nat) (q : Nat) (sv vq : Value), sv = s6 ∧ vq = s7 ∧ q + g = A.length + 1 ∧ q ≤ l.length + 1 ∧ Sf A i l q ∧ Bq w A.length sv vq l (((i :: l).drop q).map fun (i : Nat) => (i : Int)) wx)
  case atStart => exact ⟨[], 0, _, _, rfl, rfl, by omega, by simp, Sf.nil A i, hQ.out⟩
  case round =>
    clear hQ hs1
    obtain ⟨l, q, sv, vq, rfl, rfl, hqg, hql, hS, hB⟩ := hrel
    have HSf := Lib.hid hS
    have HB := Lib.hid hB
    have hlen := hS.len
    clear hS hB
    by_cases he : q = l.length + 1
    · subst he
      have hu := HB.out.u
      rw [show (i :: l).drop (l.length + 1) = [] by simp] at hu
      obtain ⟨g9, o9, c9, cur9, rfl, -⟩ := hu
      simp only [List.map_nil, List.length_nil]
      go_wp2
      go_ret
      exact ⟨_, l, rfl, own_rin HB.out.o, HSf.out.done, hlen, HB.out.below⟩
    · have hq : q < (i :: l).length := by simp; omega
      obtain ⟨x, hx⟩ : ∃ x, (i :: l)[q]? = some x := ⟨_, List.getElem?_eq_getElem hq⟩
      have hdr : (i :: l).drop q = x :: (i :: l).drop (q + 1) := by
        rw [List.drop_eq_getElem_cons hq]
        rw [List.getElem?_eq_getElem hq] at hx
        rw [Option.some.inj hx]
      have hxl : x < A.length := by
        rcases List.mem_cons.1 (List.mem_of_getElem? hx) with rfl | hm
        · exact hi
        · exact HSf.out.lt x hm
      obtain ⟨lx, hlx⟩ : ∃ lx, A[x]? = some lx := ⟨_, List.getElem?_eq_getElem hxl⟩
      have hu := HB.out.u
      obtain ⟨QT, hQT⟩ : ∃ QT, QT = ((i :: l).drop (q + 1)).map fun (i : Nat) => (i : Int) := ⟨_, rfl⟩
      rw [hdr, List.map_cons, ← hQT] at hu
      obtain ⟨g1, o1, c1, rfl, f0, hc1, hu2⟩ := hu.front
      obtain ⟨b, of, svx, rfl, f1', hrx⟩ := HS.out.at x lx hlx
      have f1 := (HB.out.below.cell (p := ⟨b, _, none⟩) (World.block_lt_of_cell? w _ f1')).trans f1'
      obtain ⟨sax, scx, rfl, -⟩ := id hrx
      have HRX : Hid (∀ wx, Below w.heap.size w wx → Ri wx (.slice sax lx.length scx) lx) := fun wx hb => hrx.below hb
      have hxx : (x : Int) < (A.length : Int) := by omega
      have hx0 : (0 : Int) ≤ (x : Int) := by omega
      have hlxl := HLL.out lx (List.mem_of_getElem? hlx)
      have hgx : (A[x]?).getD [] = lx := by rw [hlx]; rfl
      have HQT := Lib.hid hQT
      have HX := Lib.hid hx
      have HGX := Lib.hid hgx
      have hc0 : (1 : Int) ≤ (QT.length : Int) + 1 := by omega
      have hc2 : (QT.length : Int) + 1 ≤ (c1 : Int) := by omega
      by_cases hc9 : c1 = 1
      · subst hc9
        have hn9 : QT.length = 0 := by omega
        have hu9 := hu.front0 (List.eq_nil_of_length_eq_zero hn9)
        rw [hn9] at hu9
        have B2 : Hid (Bq w A.length sv (.slice (some ⟨g1, o1, none⟩) 0 0) l QT wr) := ⟨HB.out.below, HB.out.d, HB.out.o, hu9, fun g e e2 => HB.out.ne g e e2⟩
        clear hn9 hu9
        clear hQT hx hgx hlx hdr hu hu2 f1' hrx HB
        go_wp2
        go_loopg [6, 7, 10, 29] lx.length (fun g s6 s7 s10 s29 wx => ∃ (l' : List Nat) (e : Nat) (sv' vq' : Value), sv' = s6 ∧ vq' = s7 ∧ e + g = lx.length ∧ s29 = .int .i64 e ∧ Sf A i l' q ∧ (i :: l')[q]? = some x ∧ (∀ k ∈ lx.take e, vd A.length x k = true → k.toNat ∈ l') ∧ Bq w A.length sv' vq' l' (((i :: l').drop (q + 1)).map fun (i : Nat) => (i : Int)) wx)
        case atStart => exact ⟨l, 0, _, _, rfl, rfl, by omega, rfl, HSf.out, HX.out, fun k hk => by simp at hk, HQT.out ▸ B2.out⟩
        case round =>
          clear B2 HSf HQT HX f0 f1 hc0 hc2 hlen
          obtain ⟨l', e, sv', vq', rfl, rfl, heg, rfl, hS, hx2, hin, hB⟩ := hrel
          have HSf := Lib.hid hS
          have HX := Lib.hid hx2
          have HIN := Lib.hid hin
          have HB := Lib.hid hB
          have hlen := hS.len
          have hql2 : q < l'.length + 1 := by have := (List.getElem?_eq_some_iff.1 hx2).1; simpa using this
          clear hS hx2 hin hB
          cases gk with
          | zero =>
            obtain rfl : e = lx.length := by omega
            go_wp2
            go_roundg (A.length - q)
            case measure => omega
            case rel =>
              refine ⟨l', q + 1, _, _, rfl, rfl, by omega, by omega, HSf.out.next HX.out (fun k hk hv => ?_), HB.out⟩
              have h9 := HIN.out
              rw [List.take_length] at h9
              exact h9 k (by rwa [HGX.out] at hk) hv
          | succ ge =>
            have he' : e < lx.length := by omega
            obtain ⟨k, hk⟩ : ∃ k, lx[e]? = some k := ⟨_, List.getElem?_eq_getElem he'⟩
            obtain ⟨g3, o3, c3, e3, hc3⟩ := (HRX.out _ HB.out.below).at (by omega)
            simp only [Value.slice.injEq] at e3
            obtain ⟨rfl, -, rfl⟩ := e3
            have t0 := hc3 e k hk
            have hee : (e : Int) < (lx.length : Int) := by omega
            have hnx : ∀ l2 : List Nat, (∀ y ∈ l', y ∈ l2) → (vd A.length x k = true → k.toNat ∈ l2) → ∀ k' ∈ lx.take (e + 1), vd A.length x k' = true → k'.toNat ∈ l2 := fun l2 hsub hkk k' hk' hv => by
              rw [List.take_add_one, hk] at hk'
              simp only [Option.toList, List.mem_append, List.mem_singleton] at hk'
              rcases hk' with hk' | rfl
              · exact hsub _ (HIN.out k' hk' hv)
              · exact hkk hv
            have hed : vd A.length x k = true → Ed A x k.toNat := fun hv => ⟨k, by rw [HGX.out]; exact List.mem_of_getElem? hk, hv, rfl⟩
            have HNX := Lib.hid hnx
            have HED := Lib.hid hed
            clear hnx hed hk hc3
            by_cases k0 : 0 ≤ k
            · by_cases k1 : k < (A.length : Int)
              · by_cases k2 : k = (x : Int)
                · have e2 : (k != (x : Int)) = false := by simp [k2]
                  have HK := Lib.hid (show vd A.length x k = false by unfold vd; rw [k2]; simp)
                  clear k2
                  go_wp2
                  go_roundg ge
                  case measure => omega
                  case rel => exact ⟨l', e + 1, _, _, rfl, rfl, by omega, by simp, HSf.out, HX.out, HNX.out l' (fun y h => h) (fun hv => by rw [HK.out] at hv; cases hv), HB.out⟩
                · have e2 : (k != (x : Int)) = true := by simp [k2]
                  have HV := Lib.hid (show vd A.length x k = true by unfold vd; rw [decide_eq_true k0, decide_eq_true k1, decide_eq_true k2]; rfl)
                  clear k2
                  obtain ⟨kn, rfl⟩ := Int.eq_ofNat_of_zero_le k0
                  have hkn : kn < A.length := by omega
                  have t1 := HB.out.d.c kn hkn
                  have t2 := Bk.f HB.out.d kn
                  cases hfk : mf l' kn with
                  | true =>
                    rw [hfk] at t1
                    have HFK := Lib.hid (show kn ∈ l' by simpa [mf] using hfk)
                    clear hfk
                    go_wp2
                    go_roundg ge
                    case measure => omega
                    case rel => exact ⟨l', e + 1, _, _, rfl, rfl, by omega, by simp, HSf.out, HX.out, HNX.out l' (fun y h => h) (fun _ => by simpa using HFK.out), HB.out⟩
                  | false =>
                    rw [hfk] at t1
                    have HFK := Lib.hid (show kn ∉ l' by simpa [mf] using hfk)
                    clear hfk
                    have hadd := HSf.out.add HX.out (y := kn) (by simpa using HED.out HV.out) HFK.out
                    have hlen2 := hadd.len
                    have HAD := Lib.hid hadd
                    clear hadd
                    obtain ⟨w6, hw6⟩ : ∃ w6, w6 = wr.setCell ⟨w.heap.size, kn, none⟩ (.bool true) := ⟨_, rfl⟩
                    have HW6 := Lib.hid hw6.symm
                    have own6 : w6.ownsRow (w.heap.size + 1) 3 1 sv' l'.length (nv l') := by rw [hw6]; exact ownsRow_setCell_below HB.out.o (by simp) _
                    have hs6 : w.heap.size < w6.heap.size := by rw [hw6]; have := Bk.lt HB.out.d; simpa [World.setCell] using this
                    have HMID : Hid (∀ w7, (w6.alloc (.cells #[.int .i64 (kn : Int)] 3)).grownBy w7 sv'.ownBlock → Qu (w7.alloc (.cells #[.int .i64 (kn : Int)] 3)) (w.heap.size + 1) vq' (((i :: l').drop (q + 1)).map fun (i : Nat) => (i : Int))) := fun w7 g7 => by rw [hw6] at g7; exact HB.out.mid g7
                    have hqs : (((i :: l').drop (q + 1)).map fun (i : Nat) => (i : Int)).length ≤ 100000 := by rw [List.length_map, List.length_drop]; simp; omega
                    have hdq : ((i :: (l' ++ [kn])).drop (q + 1)).map (fun (i : Nat) => (i : Int)) = (((i :: l').drop (q + 1)).map fun (i : Nat) => (i : Int)) ++ [(kn : Int)] := by
                      rw [show i :: (l' ++ [kn]) = (i :: l') ++ [kn] from rfl, List.drop_append_of_le_length (by simp; omega), List.map_append]
                      rfl
                    have HDQ := Lib.hid hdq
                    have HPUT : Hid (∀ (w7 w8 : World) (g2 c2 : Nat) (v8 : Value), (w6.alloc (.cells #[.int .i64 (kn : Int)] 3)).grownBy w7 sv'.ownBlock → w7.ownsRow (w.heap.size + 1) 3 1 (.slice (some ⟨g2, 0, none⟩) (l'.length + 1) c2) (l'.length + 1) (nv l' ++ [.int .i64 (kn : Int)]) → (sv'.ownBlock = some g2 ∨ g2 = (w6.alloc (.cells #[.int .i64 (kn : Int)] 3)).heap.size) → g2 < w7.heap.size → (w7.alloc (.cells #[.int .i64 (kn : Int)] 3)).grownBy w8 vq'.ownBlock → Qu w8 (w.heap.size + 1) v8 ((((i :: l').drop (q + 1)).map fun (i : Nat) => (i : Int)) ++ [(kn : Int)]) → (v8.ownBlock = vq'.ownBlock ∨ ∃ g, v8.ownBlock = some g ∧ (w7.alloc (.cells #[.int .i64 (kn : Int)] 3)).heap.size ≤ g) → Bq w A.length (.slice (some ⟨g2, 0, none⟩) (l'.length + 1) c2) v8 (l' ++ [kn]) ((((i :: l').drop (q + 1)).map fun (i : Nat) => (i : Int)) ++ [(kn : Int)]) w8) := fun w7 w8 g2 c2 v8 g7 o7 a7 l7 g8 u8 a8 => by
                      rw [hw6] at g7 a7
                      exact HB.out.put g7 o7 a7 l7 g8 u8 a8
                    generalize hQS : (((i :: l').drop (q + 1)).map fun (i : Nat) => (i : Int)) = QS at HMID hqs HDQ HPUT
                    clear hdq hw6 hQS
                    go_wp2_with (first
                      | rw [HW6.out]
                      | (at_builtin; refine wpList_append_lies _ rfl _ _ 25 rfl (w.heap.size + 1) 3 i0 _ 1 8 Try.underlying25 hi0 hz0 hz1 hz2 rfl (by decide) _ _ _ rfl (own6.alloc _) ⟨w6.heap.size, 0, none⟩ 1 1 [.int .i64 (kn : Int)] rfl rfl (cell_one_new _ _ _) (by intro u hu; simp at hu; subst hu; rfl) (by decide) (by unfold maxLen; omega) (by omega) (by simp; omega) _ rfl ?_; intro g2 c2 w7 own7 gr7 at7 lt7; have q7 := HMID.out w7 gr7)
                      | (at_builtin; refine wpList_qapp rfl _ _ rfl (w.heap.size + 1) vq' QS rfl q7 (by have := gr7.size; simp at this ⊢; omega) kn ⟨w7.heap.size, 0, none⟩ rfl (cell_one_new _ _ _) hqs ?_; intro v8 w8 qu8 gr8 at8))
                    go_roundg ge
                    case measure => omega
                    case rel =>
                      refine ⟨l' ++ [kn], e + 1, .slice (some ⟨g2, 0, none⟩) (l'.length + 1) c2, v8, rfl, rfl, by omega, by simp, HAD.out, ?_, HNX.out _ (fun y h => List.mem_append_left _ h) (fun _ => by simp), ?_⟩
                      · rw [show i :: (l' ++ [kn]) = (i :: l') ++ [kn] from rfl, List.getElem?_append_left (by simpa using hql2)]
                        exact HX.out
                      · rw [HDQ.out]
                        exact HPUT.out w7 w8 g2 c2 v8 gr7 own7 at7 lt7 gr8 qu8 at8
              · have HK := Lib.hid (show vd A.length x k = false by unfold vd; rw [decide_eq_false k1]; simp)
                go_wp2
                go_roundg ge
                case measure => omega
                case rel => exact ⟨l', e + 1, _, _, rfl, rfl, by omega, by simp, HSf.out, HX.out, HNX.out l' (fun y h => h) (fun hv => by rw [HK.out] at hv; cases hv), HB.out⟩
            · have HK := Lib.hid (show vd A.length x k = false by unfold vd; rw [decide_eq_false k0]; simp)
              go_wp2
              go_roundg ge
              case measure => omega
              case rel => exact ⟨l', e + 1, _, _, rfl, rfl, by omega, by simp, HSf.out, HX.out, HNX.out l' (fun y h => h) (fun hv => by rw [HK.out] at hv; cases hv), HB.out⟩
      · have B2 : Hid (Bq w A.length sv (.slice (some ⟨g1, o1 + 1, none⟩) QT.length (c1 - 1)) l QT wr) := ⟨HB.out.below, HB.out.d, HB.out.o, hu2, fun g e e2 => HB.out.ne g e e2⟩
        clear hQT hx hgx hlx hdr hu hu2 f1' hrx HB
        have hc8 : ¬ (c1 : Int) = 1 := by omega
        go_wp2
        go_loopg [6, 7, 10, 29] lx.length (fun g s6 s7 s10 s29 wx => ∃ (l' : List Nat) (e : Nat) (sv' vq' : Value), sv' = s6 ∧ vq' = s7 ∧ e + g = lx.length ∧ s29 = .int .i64 e ∧ Sf A i l' q ∧ (i :: l')[q]? = some x ∧ (∀ k ∈ lx.take e, vd A.length x k = true → k.toNat ∈ l') ∧ Bq w A.length sv' vq' l' (((i :: l').drop (q + 1)).map fun (i : Nat) => (i : Int)) wx)
        case atStart => exact ⟨l, 0, _, _, rfl, rfl, by omega, rfl, HSf.out, HX.out, fun k hk => by simp at hk, HQT.out ▸ B2.out⟩
        case round =>
          clear B2 HSf HQT HX f0 f1 hc0 hc2 hlen
          obtain ⟨l', e, sv', vq', rfl, rfl, heg, rfl, hS, hx2, hin, hB⟩ := hrel
          have HSf := Lib.hid hS
          have HX := Lib.hid hx2
          have HIN := Lib.hid hin
          have HB := Lib.hid hB
          have hlen := hS.len
          have hql2 : q < l'.length + 1 := by have := (List.getElem?_eq_some_iff.1 hx2).1; simpa using this
          clear hS hx2 hin hB
          cases gk with
          | zero =>
            obtain rfl : e = lx.length := by omega
            go_wp2
            go_roundg (A.length - q)
            case measure => omega
            case rel =>
              refine ⟨l', q + 1, _, _, rfl, rfl, by omega, by omega, HSf.out.next HX.out (fun k hk hv => ?_), HB.out⟩
              have h9 := HIN.out
              rw [List.take_length] at h9
              exact h9 k (by rwa [HGX.out] at hk) hv
          | succ ge =>
            have he' : e < lx.length := by omega
            obtain ⟨k, hk⟩ : ∃ k, lx[e]? = some k := ⟨_, List.getElem?_eq_getElem he'⟩
            obtain ⟨g3, o3, c3, e3, hc3⟩ := (HRX.out _ HB.out.below).at (by omega)
            simp only [Value.slice.injEq] at e3
            obtain ⟨rfl, -, rfl⟩ := e3
            have t0 := hc3 e k hk
            have hee : (e : Int) < (lx.length : Int) := by omega
            have hnx : ∀ l2 : List Nat, (∀ y ∈ l', y ∈ l2) → (vd A.length x k = true → k.toNat ∈ l2) → ∀ k' ∈ lx.take (e + 1), vd A.length x k' = true → k'.toNat ∈ l2 := fun l2 hsub hkk k' hk' hv => by
              rw [List.take_add_one, hk] at hk'
              simp only [Option.toList, List.mem_append, List.mem_singleton] at hk'
              rcases hk' with hk' | rfl
              · exact hsub _ (HIN.out k' hk' hv)
              · exact hkk hv
            have hed : vd A.length x k = true → Ed A x k.toNat := fun hv => ⟨k, by rw [HGX.out]; exact List.mem_of_getElem? hk, hv, rfl⟩
            have HNX := Lib.hid hnx
            have HED := Lib.hid hed
            clear hnx hed hk hc3
            by_cases k0 : 0 ≤ k
            · by_cases k1 : k < (A.length : Int)
              · by_cases k2 : k = (x : Int)
                · have e2 : (k != (x : Int)) = false := by simp [k2]
                  have HK := Lib.hid (show vd A.length x k = false by unfold vd; rw [k2]; simp)
                  clear k2
                  go_wp2
                  go_roundg ge
                  case measure => omega
                  case rel => exact ⟨l', e + 1, _, _, rfl, rfl, by omega, by simp, HSf.out, HX.out, HNX.out l' (fun y h => h) (fun hv => by rw [HK.out] at hv; cases hv), HB.out⟩
                · have e2 : (k != (x : Int)) = true := by simp [k2]
                  have HV := Lib.hid (show vd A.length x k = true by unfold vd; rw [decide_eq_true k0, decide_eq_true k1, decide_eq_true k2]; rfl)
                  clear k2
                  obtain ⟨kn, rfl⟩ := Int.eq_ofNat_of_zero_le k0
                  have hkn : kn < A.length := by omega
                  have t1 := HB.out.d.c kn hkn
                  have t2 := Bk.f HB.out.d kn
                  cases hfk : mf l' kn with
                  | true =>
                    rw [hfk] at t1
                    have HFK := Lib.hid (show kn ∈ l' by simpa [mf] using hfk)
                    clear hfk
                    go_wp2
                    go_roundg ge
                    case measure => omega
                    case rel => exact ⟨l', e + 1, _, _, rfl, rfl, by omega, by simp, HSf.out, HX.out, HNX.out l' (fun y h => h) (fun _ => by simpa using HFK.out), HB.out⟩
                  | false =>
                    rw [hfk] at t1
                    have HFK := Lib.hid (show kn ∉ l' by simpa [mf] using hfk)
                    clear hfk
                    have hadd := HSf.out.add HX.out (y := kn) (by simpa using HED.out HV.out) HFK.out
                    have hlen2 := hadd.len
                    have HAD := Lib.hid hadd
                    clear hadd
                    obtain ⟨w6, hw6⟩ : ∃ w6, w6 = wr.setCell ⟨w.heap.size, kn, none⟩ (.bool true) := ⟨_, rfl⟩
                    have HW6 := Lib.hid hw6.symm
                    have own6 : w6.ownsRow (w.heap.size + 1) 3 1 sv' l'.length (nv l') := by rw [hw6]; exact ownsRow_setCell_below HB.out.o (by simp) _
                    have hs6 : w.heap.size < w6.heap.size := by rw [hw6]; have := Bk.lt HB.out.d; simpa [World.setCell] using this
                    have HMID : Hid (∀ w7, (w6.alloc (.cells #[.int .i64 (kn : Int)] 3)).grownBy w7 sv'.ownBlock → Qu (w7.alloc (.cells #[.int .i64 (kn : Int)] 3)) (w.heap.size + 1) vq' (((i :: l').drop (q + 1)).map fun (i : Nat) => (i : Int))) := fun w7 g7 => by rw [hw6] at g7; exact HB.out.mid g7
                    have hqs : (((i :: l').drop (q + 1)).map fun (i : Nat) => (i : Int)).length ≤ 100000 := by rw [List.length_map, List.length_drop]; simp; omega
                    have hdq : ((i :: (l' ++ [kn])).drop (q + 1)).map (fun (i : Nat) => (i : Int)) = (((i :: l').drop (q + 1)).map fun (i : Nat) => (i : Int)) ++ [(kn : Int)] := by
                      rw [show i :: (l' ++ [kn]) = (i :: l') ++ [kn] from rfl, List.drop_append_of_le_length (by simp; omega), List.map_append]
                      rfl
                    have HDQ := Lib.hid hdq
                    have HPUT : Hid (∀ (w7 w8 : World) (g2 c2 : Nat) (v8 : Value), (w6.alloc (.cells #[.int .i64 (kn : Int)] 3)).grownBy w7 sv'.ownBlock → w7.ownsRow (w.heap.size + 1) 3 1 (.slice (some ⟨g2, 0, none⟩) (l'.length + 1) c2) (l'.length + 1) (nv l' ++ [.int .i64 (kn : Int)]) → (sv'.ownBlock = some g2 ∨ g2 = (w6.alloc (.cells #[.int .i64 (kn : Int)] 3)).heap.size) → g2 < w7.heap.size → (w7.alloc (.cells #[.int .i64 (kn : Int)] 3)).grownBy w8 vq'.ownBlock → Qu w8 (w.heap.size + 1) v8 ((((i :: l').drop (q + 1)).map fun (i : Nat) => (i : Int)) ++ [(kn : Int)]) → (v8.ownBlock = vq'.ownBlock ∨ ∃ g, v8.ownBlock = some g ∧ (w7.alloc (.cells #[.int .i64 (kn : Int)] 3)).heap.size ≤ g) → Bq w A.length (.slice (some ⟨g2, 0, none⟩) (l'.length + 1) c2) v8 (l' ++ [kn]) ((((i :: l').drop (q + 1)).map fun (i : Nat) => (i : Int)) ++ [(kn : Int)]) w8) := fun w7 w8 g2 c2 v8 g7 o7 a7 l7 g8 u8 a8 => by
                      rw [hw6] at g7 a7
                      exact HB.out.put g7 o7 a7 l7 g8 u8 a8
                    generalize hQS : (((i :: l').drop (q + 1)).map fun (i : Nat) => (i : Int)) = QS at HMID hqs HDQ HPUT
                    clear hdq hw6 hQS
                    go_wp2_with (first
                      | rw [HW6.out]
                      | (at_builtin; refine wpList_append_lies _ rfl _ _ 25 rfl (w.heap.size + 1) 3 i0 _ 1 8 Try.underlying25 hi0 hz0 hz1 hz2 rfl (by decide) _ _ _ rfl (own6.alloc _) ⟨w6.heap.size, 0, none⟩ 1 1 [.int .i64 (kn : Int)] rfl rfl (cell_one_new _ _ _) (by intro u hu; simp at hu; subst hu; rfl) (by decide) (by unfold maxLen; omega) (by omega) (by simp; omega) _ rfl ?_; intro g2 c2 w7 own7 gr7 at7 lt7; have q7 := HMID.out w7 gr7)
                      | (at_builtin; refine wpList_qapp rfl _ _ rfl (w.heap.size + 1) vq' QS rfl q7 (by have := gr7.size; simp at this ⊢; omega) kn ⟨w7.heap.size, 0, none⟩ rfl (cell_one_new _ _ _) hqs ?_; intro v8 w8 qu8 gr8 at8))
                    go_roundg ge
                    case measure => omega
                    case rel =>
                      refine ⟨l' ++ [kn], e + 1, .slice (some ⟨g2, 0, none⟩) (l'.length + 1) c2, v8, rfl, rfl, by omega, by simp, HAD.out, ?_, HNX.out _ (fun y h => List.mem_append_left _ h) (fun _ => by simp), ?_⟩
                      · rw [show i :: (l' ++ [kn]) = (i :: l') ++ [kn] from rfl, List.getElem?_append_left (by simpa using hql2)]
                        exact HX.out
                      · rw [HDQ.out]
                        exact HPUT.out w7 w8 g2 c2 v8 gr7 own7 at7 lt7 gr8 qu8 at8
              · have HK := Lib.hid (show vd A.length x k = false by unfold vd; rw [decide_eq_false k1]; simp)
                go_wp2
                go_roundg ge
                case measure => omega
                case rel => exact ⟨l', e + 1, _, _, rfl, rfl, by omega, by simp, HSf.out, HX.out, HNX.out l' (fun y h => h) (fun hv => by rw [HK.out] at hv; cases hv), HB.out⟩
            · have HK := Lib.hid (show vd A.length x k = false by unfold vd; rw [decide_eq_false k0]; simp)
              go_wp2
              go_roundg ge
              case measure => omega
              case rel => exact ⟨l', e + 1, _, _, rfl, rfl, by omega, by simp, HSf.out, HX.out, HNX.out l' (fun y h => h) (fun hv => by rw [HK.out] at hv; cases hv), HB.out⟩
end Go.Proofs.Ytblpafmcnhhdpaa
