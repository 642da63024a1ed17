/- For any size and numbers the law DedupRows answers true; the conditions: the row in memory. -/
import Derived.Test.YtdnmbalmejhbcaaDg
namespace Go.Proofs.Ytdnmbalmejhbcaa
open Go.RowKit Go.Shelf

theorem rem_num (x m : Int) (h : 0 ≤ x) : ∃ q : Nat, (IntKind.u64.wrap m).tmod (x + 1) = q ∧ (q : Int) ≤ x := by
  have h0 : 0 ≤ IntKind.u64.wrap m := by
    have : IntKind.u64.wrap m = m % 18446744073709551616 := by simp [IntKind.wrap, IntKind.bits, IntKind.signed]
    omega
  have h1 := Int.tmod_nonneg (x + 1) h0
  have h2 := Int.tmod_lt_of_pos (IntKind.u64.wrap m) (show 0 < x + 1 by omega)
  exact ⟨((IntKind.u64.wrap m).tmod (x + 1)).toNat, by omega, by omega⟩
/-- The last so many. -/
def lastS (S : Nat) (fr : List Int) : List Int := fr.drop (fr.length - S)
theorem lastS_len (S : Nat) (fr : List Int) : (lastS S fr).length = min fr.length S := by simp [lastS]; omega
theorem lastS_mem {S : Nat} {fr : List Int} {x : Int} : x ∈ lastS S fr ↔ ∃ j, fr.length - S ≤ j ∧ j < fr.length ∧ fr.getD j 0 = x := by
  unfold lastS
  rw [mem_getD]
  constructor
  · rintro ⟨j, hj, e⟩
    simp at hj
    refine ⟨fr.length - S + j, by omega, by omega, ?_⟩
    rw [← e]
    simp [List.getD_eq_getElem?_getD]
  · rintro ⟨j, h1, h2, e⟩
    refine ⟨j - (fr.length - S), by simp; omega, ?_⟩
    rw [← e]
    simp [List.getD_eq_getElem?_getD, show fr.length - S + (j - (fr.length - S)) = j by omega]
theorem sn_lastS {S : Nat} (hS : 1 ≤ S) (fr : List Int) (x : Int) (h : ¬ x ∈ lastS S fr) : sn S x (lastS S fr) = lastS S (fr ++ [x]) := by
  rw [sn_no h]
  unfold stayL
  rw [lastS_len]
  by_cases hl : fr.length < S
  · rw [if_neg (by omega)]
    simp [lastS, show fr.length - S = 0 by omega, show fr.length + 1 - S = 0 by omega]
  · rw [if_pos (by omega)]
    simp [lastS, show fr.length + 1 - S = fr.length - S + 1 by omega]
    rw [List.drop_append_of_le_length (by omega)]
/-- One row behind another, and what is not written. -/
theorem wpList_app2 {ops : Array Oper} {rest : List Oper} {o : Oper} {a : Act} {Q : Exit → Act → World → Prop} {w : World} (hgd : o.guard = none) (s x : Operand)
    (ho : o.op = .call { callee := .builtin .append, args := #[s, x], argTypes := #[22, 22] })
    (base : Nat) (ad : Option Addr) (cap : Nat) (xs : List Int) (hs : a.eval s = .slice ad xs.length cap) (hown : Ow w base ad cap xs)
    (a2 : Addr) (c2 : Nat) (ys : List Int) (hx : a.eval x = .slice (some a2) ys.length c2) (hsl : Sl w (some a2) c2 ys) (hlen : xs.length + ys.length ≤ 1000000) (hbase : base ≤ w.heap.size)
    (h : ∀ ad' cap' w', Ow w' base ad' cap' (xs ++ ys) → w.grownBy w' (Value.slice ad xs.length cap).ownBlock → ((Value.slice ad' (xs ++ ys).length cap').ownBlock = (Value.slice ad xs.length cap).ownBlock ∨ (Value.slice ad' (xs ++ ys).length cap').ownBlock = some w.heap.size) → wpList Try.prog ops Q rest (a.put o.dst (.slice ad' (xs ++ ys).length cap')) w') : wpList Try.prog ops Q (o :: rest) a w := by
  obtain ⟨i0, hi0, hz0, hz1, hz2⟩ := info_parts infoI
  refine wpList_append_own_at _ hgd s x 22 ho base 2 i0 (.int .i64 0) 1 8 Try.underlying22 hi0 hz0 hz1 hz2 rfl (by decide) _ xs.length (xs.map (Value.int .i64)) hs hown a2 ys.length c2 (ys.map (Value.int .i64)) hx (by simp) hsl.news (one_cells ys) (by unfold maxLen; omega) (by omega) hbase ?_
  intro v' w' ho' hg' _ ha'
  obtain ⟨ad', cap', rfl⟩ := row_form ho'
  have h1 : Ow w' base ad' cap' (xs ++ ys) := by unfold Ow; rw [List.length_append, List.map_append]; exact ho'
  rw [List.length_append] at h
  exact h ad' cap' w' h1 hg' ha'
/-- The state in its box and the row of what is new, in blocks of their own. -/
structure Fr (w : World) (N : Nat) (S : Nat) (fr : List Int) (af : Option Addr) (cf : Nat) (ad : Option Addr) (cap : Nat) (W : World) : Prop where
  bx : Bk W N #[.slice ad (lastS S fr).length cap] 24
  ro : Ow W (N + 1) af cf fr
  st : Ow W (N + 1) ad cap (lastS S fr)
  dj : ∀ g, (Value.slice af fr.length cf).ownBlock = some g → (Value.slice ad (lastS S fr).length cap).ownBlock = some g → False
  lo : Below N w W
  sz : N < W.heap.size
theorem Fr.start (w : World) (S : Nat) : Fr w w.heap.size S [] none 0 none 0 (w.alloc (.cells #[.slice none 0 0] 24)) := by
  have e : lastS S [] = [] := by simp [lastS]
  refine ⟨?_, Ow.nil _ _, ?_, (fun g h => nomatch h), below1 _ _, by simp⟩
  · rw [e]; exact Bk.new w _ _
  · rw [e]; exact Ow.nil _ _
theorem Ow.put {w : World} {base A : Nat} {ad : Option Addr} {cap : Nat} {l : List Int} (h : Ow w base ad cap l) (hA : A < base) (v : Value) : Ow (w.setCell ⟨A, 0, none⟩ v) base ad cap l := h.set hA v
theorem Ow.bnd {w : World} {base : Nat} {ad : Option Addr} {cap : Nat} {l : List Int} (h : Ow w base ad cap l) {g : Nat} (e : (Value.slice ad l.length cap).ownBlock = some g) : base ≤ g ∧ g < w.heap.size := h.lt g e
/-- The state is asked anew. -/
theorem Fr.ask {w W w1 : World} {N S cf cap c1 : Nat} {fr l1 : List Int} {af ad a1 : Option Addr} (h : Fr w N S fr af cf ad cap W) (hb : Below W.heap.size W w1) (o : Ow w1 W.heap.size a1 c1 l1) (hN : N = w.heap.size) :
    Bk (w1.setCell ⟨N, 0, none⟩ (.slice a1 l1.length c1)) N #[.slice a1 l1.length c1] 24 ∧ Ow (w1.setCell ⟨N, 0, none⟩ (.slice a1 l1.length c1)) (N + 1) af cf fr ∧ Ow (w1.setCell ⟨N, 0, none⟩ (.slice a1 l1.length c1)) (N + 1) a1 c1 l1 ∧ (∀ g, (Value.slice af fr.length cf).ownBlock = some g → (Value.slice a1 l1.length c1).ownBlock = some g → False) ∧ Below N w (w1.setCell ⟨N, 0, none⟩ (.slice a1 l1.length c1)) := by
  have hs := h.sz
  refine ⟨(h.bx.step hb).set 0 _, (h.ro.step hb).put (by omega) _, (o.put (by omega) _).mono (by omega), fun g e1 e2 => ?_, ?_⟩
  · have := (h.ro.bnd e1).2
    have := (o.bnd e2).1
    omega
  · subst hN
    exact (h.lo.trans (hb.mono (by omega))).setCell (p := ⟨w.heap.size, 0, none⟩) (by simp) _
theorem Fr.same {w W w1 : World} {N S cf cap c1 : Nat} {fr : List Int} {af ad a1 : Option Addr} (h : Fr w N S fr af cf ad cap W) (hb : Below W.heap.size W w1) (o : Ow w1 W.heap.size a1 c1 (lastS S fr)) (hN : N = w.heap.size) : Fr w N S fr af cf a1 c1 (w1.setCell ⟨N, 0, none⟩ (.slice a1 (lastS S fr).length c1)) := by
  obtain ⟨q1, q2, q3, q4, q5⟩ := h.ask hb o hN
  exact ⟨q1, q2, q3, q4, q5, q1.lt⟩
theorem Fr.more {w w2 w3 : World} {N S cf c1 c3 : Nat} {fr : List Int} {x : Int} {af a1 a3 : Option Addr} {T : TypeId}
    (q : Bk w2 N #[.slice a1 (lastS S (fr ++ [x])).length c1] 24 ∧ Ow w2 (N + 1) af cf fr ∧ Ow w2 (N + 1) a1 c1 (lastS S (fr ++ [x])) ∧ (∀ g, (Value.slice af fr.length cf).ownBlock = some g → (Value.slice a1 (lastS S (fr ++ [x])).length c1).ownBlock = some g → False) ∧ Below N w w2)
    (o : Ow w3 (N + 1) a3 c3 (fr ++ [x])) (hg : (w2.alloc (.cells #[.int .i64 x] T)).grownBy w3 (Value.slice af fr.length cf).ownBlock) (hw : (Value.slice a3 (fr ++ [x]).length c3).ownBlock = (Value.slice af fr.length cf).ownBlock ∨ (Value.slice a3 (fr ++ [x]).length c3).ownBlock = some (w2.alloc (.cells #[.int .i64 x] T)).heap.size) (hN : N = w.heap.size) : Fr w N S (fr ++ [x]) a3 c3 a1 c1 w3 := by
  obtain ⟨q1, q2, q3, q4, q5⟩ := q
  have hs := q1.lt
  refine ⟨?_, o, ?_, fun g e1 e2 => ?_, ?_, ?_⟩
  · exact (hg.block N (by simp; omega) (fun e => by have := (q2.bnd e.symm).1; omega)).trans (q1.alloc _)
  · rcases q3.2 with hn | ⟨g, cp, cur, hv, hb, hgk, rest⟩
    · exact ⟨q3.1, .inl hn⟩
    · have hlt := (Array.getElem?_eq_some_iff.1 hgk).1
      refine ⟨q3.1, .inr ⟨g, cp, cur, hv, hb, ?_, rest⟩⟩
      refine (hg.block g (by simp; omega) (fun e => q4 g e.symm (by rw [hv]; rfl))).trans ((Bk.alloc (N := g) (cs := cur) (T := 2) hgk _))
  · rcases hw with hw | hw
    · exact q4 g (hw ▸ e1) e2
    · rw [hw] at e1
      cases e1
      have := (q3.bnd e2).2
      simp at this
      omega
  · subst hN
    exact Below.grown (below_al q5) hg (by simp; omega) (fun k e => by have := (q2.bnd e).1; omega)
  · have := hg.size
    simp at this
    omega

set_option maxRecDepth 100000 in
set_option maxHeartbeats 4000000 in
theorem law_rows (z : Int) (ad : Option Addr) (zs : List Int) (cap : Nat) (w : World) (hr : zs.length ≤ 9223372036854775807) (hI : Sl w ad cap zs) :
    Calls Try.prog 4 #[.int .i64 z, .slice ad zs.length cap] w fun e w' => e = .returned (.bool true) ∧ Below w.heap.size w w' := by
  obtain ⟨q, hq, hq1⟩ := rem_num 39 z (by omega)
  rw [show (39 : Int) + 1 = 40 by omega] at hq
  have HI := Lib.hid hI
  have F0 := Lib.hid (Fr.start w (q + 1))
  clear hI
  go_enter Try.func4, Try.ntmps4
  go_wp2_with fail
  clear hq
  go_loopw [6, 19] (fun sf si wr => ∃ (j : Nat) (fr : List Int) (af : Option Addr) (cf : Nat) (ad1 : Option Addr) (c1 : Nat), si = .int .i64 j ∧ j ≤ zs.length ∧ fr.length ≤ j ∧ .slice af fr.length cf = sf ∧ Hid (Fr w w.heap.size (q + 1) fr af cf ad1 c1 wr)) (fun _ si _ => (zs.length - intOf si).toNat)
  case atStart => exact ⟨0, [], none, 0, none, 0, rfl, Nat.zero_le _, Nat.le_refl _, rfl, F0⟩
  case round =>
    obtain ⟨j, fr, af, cf, ad1, c1, rfl, hj, hfj, rfl, hF⟩ := hrel
    clear F0
    by_cases hjl : j < zs.length
    · by_cases h300 : j < 300
      · obtain ⟨b, o, rfl, hb, hc⟩ := (HI.out.below hF.out.lo (Nat.le_refl _)).getD (by omega)
        have d1 := hc j hjl
        generalize zs.getD j 0 = id at d1
        clear hc
        by_cases hle : fr.length ≤ q + 1
        · go_wp2_with fail
          go_loopw [9, 10] (fun sw sk wx => ∃ (k : Nat) (wn : Bool), sk = .int .i64 k ∧ sw = .bool wn ∧ fr.length - (q + 1) ≤ k ∧ k ≤ fr.length ∧ wr = wx ∧ Hid (wn = true ↔ ∃ i, fr.length - (q + 1) ≤ i ∧ i < k ∧ fr.getD i 0 = id)) (fun _ sk _ => (fr.length - intOf sk).toNat)
          case atStart => exact ⟨fr.length - (q + 1), false, by congr 1; omega, rfl, Nat.le_refl _, by omega, rfl, Lib.hid ⟨fun h => by simp at h, fun ⟨i, h1, h2, _⟩ => by omega⟩⟩
          case round =>
            obtain ⟨k, wn, rfl, rfl, hk1, hk2, rfl, HW⟩ := hrel
            by_cases hk : k < fr.length
            · obtain ⟨b', o', rfl, hb', hc'⟩ := hF.out.ro.sl.getD (by omega)
              have d2 := hc' k hk
              clear hc' hb'
              cases wn with
              | true =>
                go_wp2_with fail
                exact ⟨⟨k + 1, true, by simp, rfl, by omega, by omega, trivial, Lib.hid ⟨fun _ => by obtain ⟨i, h1, h2, h3⟩ := HW.out.1 rfl; exact ⟨i, h1, by omega, h3⟩, fun _ => rfl⟩⟩, by simp [intOf]; omega⟩
              | false =>
                have HK : Hid (∀ x, fr.getD k 0 = x → ((x == id) = true ↔ ∃ i, fr.length - (q + 1) ≤ i ∧ i < k + 1 ∧ fr.getD i 0 = id)) := Lib.hid fun x hx => by
                  rw [beq_iff_eq]
                  constructor
                  · intro h; exact ⟨k, hk1, by omega, hx.trans h⟩
                  · rintro ⟨i, h1, h2, h3⟩
                    rcases Nat.lt_or_ge i k with h | h
                    · exact absurd (HW.out.2 ⟨i, h1, h, h3⟩) (by simp)
                    · obtain rfl : i = k := by omega
                      exact hx.symm.trans h3
                generalize hX : fr.getD k 0 = X at d2
                replace HK := Lib.hid (HK.out X hX)
                clear hX
                go_wp2_with fail
                exact ⟨⟨k + 1, X == id, by simp, rfl, by omega, by omega, trivial, HK⟩, by simp [intOf]; omega⟩
            · obtain rfl : k = fr.length := by omega
              have HW2 : wn = true ↔ id ∈ lastS (q + 1) fr := by rw [lastS_mem]; exact HW.out
              clear HW
              have bx := hF.out.bx.c 0
              have fx := hF.out.bx.f 0
              simp at bx
              have es : (1 + (q : Int)) = ((q + 1 : Nat) : Int) := by omega
              have SN := Lib.hid (seen_any ad1 (lastS (q + 1) fr) c1 (1 + (q : Int)) id wr (by have := lastS_len (q + 1) fr; omega) hF.out.st.sl)
              by_cases hm : id ∈ lastS (q + 1) fr
              · obtain rfl : wn = true := HW2.2 hm
                rw [sn_yes hm, decide_eq_true hm] at SN
                clear hm HW2 es
                go_wp2_with (go_at_call 8; with_reducible refine SN.out.mono ?_; rintro e w1 ⟨a2, c2, rfl, o2, b2⟩; have r1 := hF.out.bx.step b2; have g1 := r1.c 0; simp at g1; have f1 := r1.f 0; have N1 := Lib.hid (hF.out.same b2 o2 rfl); clear r1 b2 o2)
                exact ⟨⟨j + 1, fr, af, cf, a2, c2, by simp, by omega, by omega, rfl, N1⟩, by simp [intOf]; omega⟩
              · obtain rfl : wn = false := by cases wn with | false => rfl | true => exact absurd (HW2.1 rfl) hm
                rw [decide_eq_false hm, es, sn_lastS (by omega) fr id hm] at SN
                rw [← es] at SN
                clear hm HW2 es
                go_wp2_with (first
                  | (go_at_call 8; with_reducible refine SN.out.mono ?_; rintro e w1 ⟨a2, c2, rfl, o2, b2⟩; have r1 := hF.out.bx.step b2; have g1 := r1.c 0; simp at g1; have f1 := r1.f 0; have N1 := Lib.hid (hF.out.ask b2 o2 rfl); clear r1 b2 o2)
                  | (at_builtin; refine wpList_app2 rfl _ _ rfl (w.heap.size + 1) af cf fr rfl (N1.out.2.1.step (below1 _ _)) ⟨w1.heap.size, 0, none⟩ 1 [id] rfl (by simpa using Sl.one (w1.setCell ⟨w.heap.size, 0, none⟩ (.slice a2 (lastS (q + 1) (fr ++ [id])).length c2)) _ id) (by simp; omega) (by have := N1.out.1.lt; simp at this; simp; omega) ?_; intro a3 c3 w3 o3 g3 h3; have N3 := Lib.hid (Fr.more N1.out o3 g3 h3 rfl); clear o3 g3 h3))
                exact ⟨⟨j + 1, fr ++ [id], a3, c3, a2, c2, by simp, by omega, by simp; omega, by simp, N3⟩, by simp [intOf]; omega⟩
        · go_wp2_with fail
          go_loopw [9, 10] (fun sw sk wx => ∃ (k : Nat) (wn : Bool), sk = .int .i64 k ∧ sw = .bool wn ∧ fr.length - (q + 1) ≤ k ∧ k ≤ fr.length ∧ wr = wx ∧ Hid (wn = true ↔ ∃ i, fr.length - (q + 1) ≤ i ∧ i < k ∧ fr.getD i 0 = id)) (fun _ sk _ => (fr.length - intOf sk).toNat)
          case atStart => exact ⟨fr.length - (q + 1), false, by congr 1; omega, rfl, Nat.le_refl _, by omega, rfl, Lib.hid ⟨fun h => by simp at h, fun ⟨i, h1, h2, _⟩ => by omega⟩⟩
          case round =>
            obtain ⟨k, wn, rfl, rfl, hk1, hk2, rfl, HW⟩ := hrel
            by_cases hk : k < fr.length
            · obtain ⟨b', o', rfl, hb', hc'⟩ := hF.out.ro.sl.getD (by omega)
              have d2 := hc' k hk
              clear hc' hb'
              cases wn with
              | true =>
                go_wp2_with fail
                exact ⟨⟨k + 1, true, by simp, rfl, by omega, by omega, trivial, Lib.hid ⟨fun _ => by obtain ⟨i, h1, h2, h3⟩ := HW.out.1 rfl; exact ⟨i, h1, by omega, h3⟩, fun _ => rfl⟩⟩, by simp [intOf]; omega⟩
              | false =>
                have HK : Hid (∀ x, fr.getD k 0 = x → ((x == id) = true ↔ ∃ i, fr.length - (q + 1) ≤ i ∧ i < k + 1 ∧ fr.getD i 0 = id)) := Lib.hid fun x hx => by
                  rw [beq_iff_eq]
                  constructor
                  · intro h; exact ⟨k, hk1, by omega, hx.trans h⟩
                  · rintro ⟨i, h1, h2, h3⟩
                    rcases Nat.lt_or_ge i k with h | h
                    · exact absurd (HW.out.2 ⟨i, h1, h, h3⟩) (by simp)
                    · obtain rfl : i = k := by omega
                      exact hx.symm.trans h3
                generalize hX : fr.getD k 0 = X at d2
                replace HK := Lib.hid (HK.out X hX)
                clear hX
                go_wp2_with fail
                exact ⟨⟨k + 1, X == id, by simp, rfl, by omega, by omega, trivial, HK⟩, by simp [intOf]; omega⟩
            · obtain rfl : k = fr.length := by omega
              have HW2 : wn = true ↔ id ∈ lastS (q + 1) fr := by rw [lastS_mem]; exact HW.out
              clear HW
              have bx := hF.out.bx.c 0
              have fx := hF.out.bx.f 0
              simp at bx
              have es : (1 + (q : Int)) = ((q + 1 : Nat) : Int) := by omega
              have SN := Lib.hid (seen_any ad1 (lastS (q + 1) fr) c1 (1 + (q : Int)) id wr (by have := lastS_len (q + 1) fr; omega) hF.out.st.sl)
              by_cases hm : id ∈ lastS (q + 1) fr
              · obtain rfl : wn = true := HW2.2 hm
                rw [sn_yes hm, decide_eq_true hm] at SN
                clear hm HW2 es
                go_wp2_with (go_at_call 8; with_reducible refine SN.out.mono ?_; rintro e w1 ⟨a2, c2, rfl, o2, b2⟩; have r1 := hF.out.bx.step b2; have g1 := r1.c 0; simp at g1; have f1 := r1.f 0; have N1 := Lib.hid (hF.out.same b2 o2 rfl); clear r1 b2 o2)
                exact ⟨⟨j + 1, fr, af, cf, a2, c2, by simp, by omega, by omega, rfl, N1⟩, by simp [intOf]; omega⟩
              · obtain rfl : wn = false := by cases wn with | false => rfl | true => exact absurd (HW2.1 rfl) hm
                rw [decide_eq_false hm, es, sn_lastS (by omega) fr id hm] at SN
                rw [← es] at SN
                clear hm HW2 es
                go_wp2_with (first
                  | (go_at_call 8; with_reducible refine SN.out.mono ?_; rintro e w1 ⟨a2, c2, rfl, o2, b2⟩; have r1 := hF.out.bx.step b2; have g1 := r1.c 0; simp at g1; have f1 := r1.f 0; have N1 := Lib.hid (hF.out.ask b2 o2 rfl); clear r1 b2 o2)
                  | (at_builtin; refine wpList_app2 rfl _ _ rfl (w.heap.size + 1) af cf fr rfl (N1.out.2.1.step (below1 _ _)) ⟨w1.heap.size, 0, none⟩ 1 [id] rfl (by simpa using Sl.one (w1.setCell ⟨w.heap.size, 0, none⟩ (.slice a2 (lastS (q + 1) (fr ++ [id])).length c2)) _ id) (by simp; omega) (by have := N1.out.1.lt; simp at this; simp; omega) ?_; intro a3 c3 w3 o3 g3 h3; have N3 := Lib.hid (Fr.more N1.out o3 g3 h3 rfl); clear o3 g3 h3))
                exact ⟨⟨j + 1, fr ++ [id], a3, c3, a2, c2, by simp, by omega, by simp; omega, by simp, N3⟩, by simp [intOf]; omega⟩
      · obtain ⟨b, o, rfl, hb, hc⟩ := (HI.out.below hF.out.lo (Nat.le_refl _)).getD (by omega)
        have d1 := hc j hjl
        generalize zs.getD j 0 = id at d1
        clear hc
        go_wp2_with (go_at_call 7; refine (awake_any _).mono ?_; rintro e w2 ⟨rfl, b2⟩)
        go_ret
        exact ⟨rfl, below_then b2 hF.out.lo⟩
    · go_wp2_with (go_at_call 7; refine (awake_any _).mono ?_; rintro e w2 ⟨rfl, b2⟩)
      go_ret
      exact ⟨rfl, below_then b2 hF.out.lo⟩
end Go.Proofs.Ytdnmbalmejhbcaa
