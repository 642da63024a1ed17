/- Whatever reads as a chain is one that lies in memory, with its patterns' trees; and the table of words, read off what the rows lay; no condition but those that each theorem names. -/
import Derived.Test.YtcbplamomhimiaaDoorVn
import Derived.Lib.LaidU8T
import Derived.Lib.LaidTab
import Derived.ProofKit
import Derived.OpenShut
namespace Go.Proofs.YtcbplamomhimiaaDoor
open Go.ChangeShapes Go.WideShapes Go.ChangeAt Go.WideMaps Go.WideElems Go.RowKit

theorem list_of {T : Type} (P : Nat → T → Prop) : ∀ (len : Nat), (∀ i, i < len → ∃ t, P i t) → ∃ l : List T, l.length = len ∧ ∀ i t, l[i]? = some t → P i t := by
  intro len
  induction len with
  | zero => intro _; exact ⟨[], rfl, fun i t h => by simp at h⟩
  | succ len ih =>
    intro h
    obtain ⟨l, hl, hp⟩ := ih (fun i hi => h i (by omega))
    obtain ⟨t, ht⟩ := h len (by omega)
    refine ⟨l ++ [t], by simp [hl], fun i t' hi => ?_⟩
    by_cases hlt : i < l.length
    · rw [List.getElem?_append_left hlt] at hi; exact hp i t' hi
    · rw [List.getElem?_append_right (by omega)] at hi
      have h0 : i - l.length = 0 := by
        by_cases h1 : i - l.length = 0
        · exact h1
        · rw [List.getElem?_eq_none (by simp; omega)] at hi; cases hi
      rw [h0] at hi
      simp at hi
      have : i = len := by omega
      subst this; subst hi; exact ht
theorem add_plain' (b o i : Nat) : (⟨b, o, none⟩ : Addr).add i = ⟨b, o + i, none⟩ := by simp [Addr.add]

theorem wcells : Tryd.prog.cellsOf 33 = 3 := by kernel_rfl
theorem wcellsI : Tryd.prog.cellsOf 3 = 1 := by kernel_rfl
theorem wcellsS : Tryd.prog.cellsOf 31 = 1 := by kernel_rfl

set_option maxRecDepth 100000 in
theorem repW_of_trod {H : Type} {enc : TypeId × Value → H} {w : World} {base : Nat} {sp : Nat → Bool} {held : Bool} : ∀ (fuel : Nat) (cs : List Value) (x : DataW H × List MemPlace),
    DataW.trod enc Tryd.prog w base sp held fuel 33 cs = some x → ∃ t : Wt fuel, RepW w fuel cs t := by
  intro fuel
  induction fuel with
  | zero => intro cs x h; simp [DataW.trod] at h
  | succ fuel ih =>
    intro cs x h
    obtain ⟨xs, n, hn, -, hlen, hxl, hf⟩ := DataW.trod_struct Tryd.underlying33 h
    have hn' : fuel = n := by omega
    subst hn'
    rw [wcells] at hlen
    match cs, hlen with
    | [c0, c1, c2], _ =>
      have g : ∀ i, i < 3 → ∃ y, xs[i]? = some y := fun i hi => ⟨_, List.getElem?_eq_getElem (by rw [hxl]; exact hi)⟩
      obtain ⟨y0, hy0⟩ := g 0 (by decide)
      obtain ⟨y1, hy1⟩ := g 1 (by decide)
      obtain ⟨y2, hy2⟩ := g 2 (by decide)
      have h0 : DataW.trod enc Tryd.prog w base sp held fuel 3 (([c0, c1, c2].drop 0).take (Tryd.prog.cellsOf 3)) = some y0 := (hf 0 _ rfl).trans hy0
      rw [wcellsI] at h0
      have h1 : DataW.trod enc Tryd.prog w base sp held fuel 3 (([c0, c1, c2].drop 1).take (Tryd.prog.cellsOf 3)) = some y1 := (hf 1 _ rfl).trans hy1
      rw [wcellsI] at h1
      have h2 : DataW.trod enc Tryd.prog w base sp held fuel 31 (([c0, c1, c2].drop 2).take (Tryd.prog.cellsOf 31)) = some y2 := (hf 2 _ rfl).trans hy2
      rw [wcellsS] at h2
      obtain ⟨k, e0, -, -⟩ := DataW.trod_int Tryd.underlying3 h0
      obtain ⟨i, e1, -, -⟩ := DataW.trod_int Tryd.underlying3 h1
      simp at e0 e1
      subst e0 e1
      rcases DataW.trod_slice Tryd.underlying31 h2 with ⟨e4, -⟩ | ⟨a, len, cap, elems, rest, m, hm, e4, -, -, hlc, hcm, hel, hat, -, -⟩
      · simp at e4
        subst e4
        exact ⟨((k, i, []) : Int × Int × List (Wt fuel)), none, 0, rfl, Nat.le_refl _, by unfold maxLen; omega, .inl rfl⟩
      · simp at e4
        subst e4
        rw [wcells] at hat
        have kid : ∀ j, j < len → ∃ t : Wt fuel, ∃ v0 v1 v2, w.cell? (a.add (j * 3)) = some v0 ∧ w.cell? ((a.add (j * 3)).add 1) = some v1 ∧ w.cell? ((a.add (j * 3)).add 2) = some v2 ∧ RepW w fuel [v0, v1, v2] t := by
          intro j hj
          have hx := hat j hj
          rw [List.getElem?_eq_getElem (by omega)] at hx
          obtain ⟨cs', hc, ht⟩ := Option.bind_eq_some_iff.1 hx
          obtain ⟨-, hcl, hcc⟩ := World.cells?_some hc
          obtain ⟨t, ht'⟩ := ih cs' _ (DataW.trod_le (by omega) ht)
          match cs', hcl with
          | [v0, v1, v2], _ =>
            exact ⟨t, v0, v1, v2, by simpa [Addr.add] using hcc 0 (by decide), hcc 1 (by decide), hcc 2 (by decide), ht'⟩
        obtain ⟨ks, hkl, hkp⟩ := list_of _ len kid
        refine ⟨((k, i, ks) : Int × Int × List (Wt fuel)), some a, cap, ?_, by show ks.length ≤ cap; omega, hcm, ?_⟩
        · show _ = [_, _, Value.slice (some a) ks.length cap]
          rw [hkl]; rfl
        · cases hks : ks with
          | nil => exact .inl rfl
          | cons t0 ts =>
            right
            have h00 := hkp 0 t0 (by rw [hks]; rfl)
            obtain ⟨b, off, spot⟩ := a
            obtain ⟨v0, _, _, hc0, _⟩ := h00
            have hspot : spot = none := by simpa [Addr.add] using World.cell?_spot hc0
            subst hspot
            refine ⟨b, off, rfl, fun j t' hj => ?_⟩
            obtain ⟨v0, v1, v2, x0, x1, x2, r⟩ := hkp j t' (by rw [hks]; exact hj)
            simp only [add_plain'] at x0 x1 x2
            exact ⟨v0, v1, v2, x0, x1, x2, r⟩

theorem gW : Tryd.prog.globalNamed "conduit/caps.words" = some 0 := by kernel_rfl
theorem tW : (Tryd.prog.globals[0]?).map (·.type) = some 104 := by kernel_rfl
theorem cS : Tryd.prog.cellsOf 9 = 1 := by kernel_rfl
theorem words_eq : (Rows.laid_conduit_caps_words : DataW Unit) = .agg (wds.map fun x => .lit (.string x)) := rfl
theorem words_of_reads {W : World} (h : Lib.VarReads Tryd.prog W "conduit/caps.words" Rows.laid_conduit_caps_words) : Wds W := by
  obtain ⟨g, t, cs, fuel, p, h1, h2, h3, h4⟩ := h
  rw [gW] at h1
  obtain rfl := Option.some.inj h1
  rw [tW] at h2
  obtain rfl := Option.some.inj h2
  rw [words_eq] at h4
  have key : ∀ (j : Nat) x, wds[j]? = some x → W.cell? ⟨0, j, none⟩ = some (.string (bs x)) := fun j x hj => by
    have hjl : j < 11 := (List.getElem?_eq_some_iff.1 hj).1
    obtain ⟨fuel', d, q, hd, hf⟩ := Lib.array_elem Tryd.underlying104 h4 j hjl
    rw [cS, Nat.mul_one] at hf
    obtain ⟨s, e1, e2, -⟩ := DataW.trod_string Tryd.underlying9 hf
    rw [List.getElem?_map, hj] at hd
    have hd' : (DataW.lit (.string x) : DataW Unit) = d := by simpa using hd
    have e3 : x = s.data.toList := by
      have e4 := congrArg Prod.fst e2
      rw [← hd'] at e4
      simpa using e4
    have hc := World.var?_cell gW h3 j
    rw [hc]
    have e5 : cs.toList[j]? = some (.string s) := by
      have := congrArg (·[0]?) e1
      simpa [List.getElem?_take, List.getElem?_drop] using this
    rw [Array.getElem?_toList] at e5
    rw [e5, e3]
    congr 2
  exact ⟨World.block_lt_of_cell? W _ (key 0 _ rfl), key⟩


theorem u32_nat {n : Int} (h : (Lit.int .u32 n).wf = true) : ∃ c : Nat, n = c ∧ c < 4294967296 := by
  have h' : (0 : Int) ≤ n ∧ n ≤ 4294967295 := by simpa [Lit.wf, IntKind.min, IntKind.max, IntKind.bits, IntKind.signed] using h
  exact ⟨n.toNat, by omega, by omega⟩
theorem cChain : Tryd.prog.cellsOf 28 = 4 := by kernel_rfl
theorem cCore : Tryd.prog.cellsOf 25 = 3 := by kernel_rfl
theorem cWrap : Tryd.prog.cellsOf 35 = 8 := by kernel_rfl
theorem cWraps : Tryd.prog.cellsOf 26 = 1 := by kernel_rfl
theorem cI64 : Tryd.prog.cellsOf 2 = 1 := by kernel_rfl
theorem cCaps : Tryd.prog.cellsOf 23 = 1 := by kernel_rfl
theorem cBool : Tryd.prog.cellsOf 4 = 1 := by kernel_rfl

set_option maxRecDepth 100000 in
theorem wq_of_trod {H : Type} {enc : TypeId × Value → H} {w : World} {base : Nat} {sp : Nat → Bool} {held : Bool} (fuel : Nat) (cs : List Value) (x : DataW H × List MemPlace)
    (h : DataW.trod enc Tryd.prog w base sp held fuel 35 cs = some x) : ∃ q : Wq, cs = q.cs.toList ∧ q.x.cp < 4294967296 ∧ ∃ n, n ≤ fuel ∧ ∃ t : Wt n, RepW w n [.int .i64 q.w0, .int .i64 q.w1, .slice q.wa q.wl q.wc] t := by
  obtain ⟨xs, n, hn, -, hlen, hxl, hf⟩ := DataW.trod_struct Tryd.underlying35 h
  rw [cWrap] at hlen
  match cs, hlen with
  | [c0, c1, c2, c3, c4, c5, c6, c7], _ =>
    have g : ∀ i, i < 6 → ∃ y, xs[i]? = some y := fun i hi => ⟨_, List.getElem?_eq_getElem (by rw [hxl]; exact hi)⟩
    obtain ⟨y0, hy0⟩ := g 0 (by decide)
    obtain ⟨y1, hy1⟩ := g 1 (by decide)
    obtain ⟨y2, hy2⟩ := g 2 (by decide)
    obtain ⟨y3, hy3⟩ := g 3 (by decide)
    obtain ⟨y4, hy4⟩ := g 4 (by decide)
    obtain ⟨y5, hy5⟩ := g 5 (by decide)
    have h0 : DataW.trod enc Tryd.prog w base sp held n 3 (([c0, c1, c2, c3, c4, c5, c6, c7].drop 0).take (Tryd.prog.cellsOf 3)) = some y0 := (hf 0 _ rfl).trans hy0
    rw [wcellsI] at h0
    have h1 : DataW.trod enc Tryd.prog w base sp held n 2 (([c0, c1, c2, c3, c4, c5, c6, c7].drop 1).take (Tryd.prog.cellsOf 2)) = some y1 := (hf 1 _ rfl).trans hy1
    rw [cI64] at h1
    have h2 : DataW.trod enc Tryd.prog w base sp held n 2 (([c0, c1, c2, c3, c4, c5, c6, c7].drop 2).take (Tryd.prog.cellsOf 2)) = some y2 := (hf 2 _ rfl).trans hy2
    rw [cI64] at h2
    have h3 : DataW.trod enc Tryd.prog w base sp held n 23 (([c0, c1, c2, c3, c4, c5, c6, c7].drop 3).take (Tryd.prog.cellsOf 23)) = some y3 := (hf 3 _ rfl).trans hy3
    rw [cCaps] at h3
    have h4 : DataW.trod enc Tryd.prog w base sp held n 33 (([c0, c1, c2, c3, c4, c5, c6, c7].drop 4).take (Tryd.prog.cellsOf 33)) = some y4 := (hf 4 _ rfl).trans hy4
    rw [wcells] at h4
    have h5 : DataW.trod enc Tryd.prog w base sp held n 4 (([c0, c1, c2, c3, c4, c5, c6, c7].drop 7).take (Tryd.prog.cellsOf 4)) = some y5 := (hf 5 _ rfl).trans hy5
    rw [cBool] at h5
    obtain ⟨k0, e0, -, -⟩ := DataW.trod_int Tryd.underlying3 h0
    obtain ⟨k1, e1, -, -⟩ := DataW.trod_int Tryd.underlying2 h1
    obtain ⟨k2, e2, -, -⟩ := DataW.trod_int Tryd.underlying2 h2
    obtain ⟨k3, e3, -, w3⟩ := DataW.trod_int Tryd.underlying23 h3
    obtain ⟨b5, e5, -⟩ := DataW.trod_bool Tryd.underlying4 h5
    obtain ⟨t, ht⟩ := repW_of_trod n _ _ h4
    obtain ⟨cp, rfl, hcp⟩ := u32_nat w3
    simp at e0 e1 e2 e3 e5 ht
    subst e0 e1 e2 e3 e5
    obtain ⟨o', m', ad', len', cap', rfl, rfl, rfl⟩ := repW_shape ht
    exact ⟨⟨⟨k0, cp, b5⟩, k1, k2, o', m', ad', len', cap'⟩, rfl, hcp, n, by omega, t, ht⟩
theorem RepW.up {w : World} : ∀ {n m : Nat} {cs : List Value} {t : Wt n}, RepW w n cs t → n ≤ m → ∃ t' : Wt m, RepW w m cs t'
  | 0, _, _, _, h, _ => h.elim
  | n + 1, 0, _, _, _, hm => by omega
  | n + 1, m + 1, cs, t, h, hm => by
    obtain ⟨ad, cap, h1, h3, h4, h5⟩ := h
    rcases h5 with h5 | ⟨g, o, h6, h7⟩
    · refine ⟨((t.op, t.nm, []) : Int × Int × List (Wt m)), ad, cap, ?_, Nat.zero_le _, h4, .inl rfl⟩
      rw [h5] at h1; exact h1
    · have kid : ∀ j, j < t.ks.length → ∃ t' : Wt m, ∃ v0 v1 v2, w.cell? ⟨g, o + j * 3, none⟩ = some v0 ∧ w.cell? ⟨g, o + j * 3 + 1, none⟩ = some v1 ∧ w.cell? ⟨g, o + j * 3 + 2, none⟩ = some v2 ∧ RepW w m [v0, v1, v2] t' := by
        intro j hj
        obtain ⟨v0, v1, v2, x0, x1, x2, r⟩ := h7 j _ (List.getElem?_eq_getElem hj)
        obtain ⟨t', ht'⟩ := RepW.up r (show n ≤ m by omega)
        exact ⟨t', v0, v1, v2, x0, x1, x2, ht'⟩
      obtain ⟨ks, hkl, hkp⟩ := list_of _ _ kid
      refine ⟨((t.op, t.nm, ks) : Int × Int × List (Wt m)), ad, cap, ?_, by show ks.length ≤ cap; omega, h4, .inr ⟨g, o, h6, fun j t' hj => hkp j t' hj⟩⟩
      show cs = [_, _, Value.slice ad ks.length cap]
      rw [hkl]; exact h1

set_option maxRecDepth 100000 in
theorem chR_of_trod {H : Type} {enc : TypeId × Value → H} {w : World} {base : Nat} {sp : Nat → Bool} {held : Bool} (fuel : Nat) (cs : List Value) (x : DataW H × List MemPlace)
    (h : DataW.trod enc Tryd.prog w base sp held fuel 28 cs = some x) : ∃ (op num : Int) (c : Nat) (qs : List Wq) (ad : Option Addr) (cap n : Nat), cs = [.int .i64 op, .int .i64 num, .int .u32 (c : Nat), .slice ad qs.length cap] ∧ ChR w c ad qs cap n := by
  obtain ⟨xs, n, hn, -, hlen, hxl, hf⟩ := DataW.trod_struct Tryd.underlying28 h
  rw [cChain] at hlen
  match cs, hlen with
  | [c0, c1, c2, c3], _ =>
    have g : ∀ i, i < 2 → ∃ y, xs[i]? = some y := fun i hi => ⟨_, List.getElem?_eq_getElem (by rw [hxl]; exact hi)⟩
    obtain ⟨y0, hy0⟩ := g 0 (by decide)
    obtain ⟨y1, hy1⟩ := g 1 (by decide)
    have h0 : DataW.trod enc Tryd.prog w base sp held n 25 (([c0, c1, c2, c3].drop 0).take (Tryd.prog.cellsOf 25)) = some y0 := (hf 0 _ rfl).trans hy0
    rw [cCore] at h0
    have h1 : DataW.trod enc Tryd.prog w base sp held n 26 (([c0, c1, c2, c3].drop 3).take (Tryd.prog.cellsOf 26)) = some y1 := (hf 1 _ rfl).trans hy1
    rw [cWraps] at h1
    obtain ⟨xs', n', hn', -, -, hxl', hf'⟩ := DataW.trod_struct Tryd.underlying25 h0
    have g' : ∀ i, i < 3 → ∃ y, xs'[i]? = some y := fun i hi => ⟨_, List.getElem?_eq_getElem (by rw [hxl']; exact hi)⟩
    obtain ⟨z0, hz0⟩ := g' 0 (by decide)
    obtain ⟨z1, hz1⟩ := g' 1 (by decide)
    obtain ⟨z2, hz2⟩ := g' 2 (by decide)
    have k0 : DataW.trod enc Tryd.prog w base sp held n' 3 (([c0, c1, c2].drop 0).take (Tryd.prog.cellsOf 3)) = some z0 := (hf' 0 _ rfl).trans hz0
    rw [wcellsI] at k0
    have k1 : DataW.trod enc Tryd.prog w base sp held n' 2 (([c0, c1, c2].drop 1).take (Tryd.prog.cellsOf 2)) = some z1 := (hf' 1 _ rfl).trans hz1
    rw [cI64] at k1
    have k2 : DataW.trod enc Tryd.prog w base sp held n' 23 (([c0, c1, c2].drop 2).take (Tryd.prog.cellsOf 23)) = some z2 := (hf' 2 _ rfl).trans hz2
    rw [cCaps] at k2
    obtain ⟨i0, e0, -, -⟩ := DataW.trod_int Tryd.underlying3 k0
    obtain ⟨i1, e1, -, -⟩ := DataW.trod_int Tryd.underlying2 k1
    obtain ⟨i2, e2, -, w2⟩ := DataW.trod_int Tryd.underlying23 k2
    obtain ⟨c, rfl, hc⟩ := u32_nat w2
    simp at e0 e1 e2
    subst e0 e1 e2
    rcases DataW.trod_slice Tryd.underlying26 h1 with ⟨e4, -⟩ | ⟨a, len, cap, elems, rest, m, hm, e4, -, -, hlc, hcm, hel, hat, -, -⟩
    · simp at e4
      subst e4
      exact ⟨i0, i1, c, [], none, 0, 0, rfl, hc, Nat.le_refl _, by unfold maxLen; omega, .inl rfl, fun q hq => by cases hq⟩
    · simp at e4
      subst e4
      rw [cWrap] at hat
      have kid : ∀ j, j < len → ∃ q : Wq, (∀ i, i < 8 → w.cell? ((a.add (j * 8)).add i) = q.cs[i]?) ∧ q.x.cp < 4294967296 ∧ ∃ t : Wt m, RepW w m [.int .i64 q.w0, .int .i64 q.w1, .slice q.wa q.wl q.wc] t := by
        intro j hj
        have hx := hat j hj
        rw [List.getElem?_eq_getElem (by omega)] at hx
        obtain ⟨cs', hc', ht⟩ := Option.bind_eq_some_iff.1 hx
        obtain ⟨-, hcl, hcc⟩ := World.cells?_some hc'
        obtain ⟨q, hq, hcp, n1, hn1, t, ht'⟩ := wq_of_trod m cs' _ ht
        obtain ⟨t', ht''⟩ := RepW.up ht' hn1
        refine ⟨q, fun i hi => ?_, hcp, t', ht''⟩
        have := hcc i (by omega)
        rw [← Array.getElem?_toList, ← hq, this]
      obtain ⟨qs, hkl, hkp⟩ := list_of _ len kid
      refine ⟨i0, i1, c, qs, some a, cap, m, by rw [hkl], hc, by omega, hcm, ?_, fun q hq => ?_⟩
      · cases hks : qs with
        | nil => exact .inl rfl
        | cons q0 ts =>
          right
          have h00 := (hkp 0 q0 (by rw [hks]; rfl)).1 0 (by decide)
          obtain ⟨b, off, spot⟩ := a
          have hspot : spot = none := by simpa [Addr.add] using World.cell?_spot (h00.trans (show q0.cs[0]? = some (.int .i64 q0.x.op) from rfl))
          subst hspot
          simp only [add_plain'] at hkp h00
          refine ⟨b, off, rfl, World.block_lt_of_cell? w _ (h00.trans (show q0.cs[0]? = some (.int .i64 q0.x.op) from rfl)), fun j q hj i hi => (hkp j q (by rw [hks]; exact hj)).1 i hi⟩
      · obtain ⟨j, hj, e⟩ := List.mem_iff_getElem.1 hq
        exact (hkp j q (by rw [List.getElem?_eq_getElem hj, e])).2
theorem array4 {cs : Array Value} (h : cs.size = 4) : ∃ c0 c1 c2 c3, cs = #[c0, c1, c2, c3] := by
  obtain ⟨l⟩ := cs
  match l, h with
  | [c0, c1, c2, c3], _ => exact ⟨c0, c1, c2, c3, rfl⟩
theorem own9 : ownKnob Tryd.prog.godebug = none := by kernel_rfl
theorem laidOut : laidOutB Tryd.prog = true := by kernel_rfl
end Go.Proofs.YtcbplamomhimiaaDoor
