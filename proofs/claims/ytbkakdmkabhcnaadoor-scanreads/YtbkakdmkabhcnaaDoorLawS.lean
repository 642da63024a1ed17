/- The law ScanReads at every text; what is asked of the world: the bytes lie in memory, and the package's variables as their text lays them. -/
import Derived.Test.YtbkakdmkabhcnaaDoorSq
import Derived.Test.YtbkakdmkabhcnaaDoorRl
namespace Go.Proofs.YtbkakdmkabhcnaaDoor
open Go.RowKit Go.Maps

theorem toks_slice {W : World} {B : Nat} {v : Value} {l : List Tok} (h : Toks W B v l) : ∃ a c, v = .slice a l.length c ∧ l.length ≤ 9223372036854775807 ∧ (l ≠ [] → ∃ g, a = some ⟨g, 0, none⟩) ∧ (∀ g, a = some ⟨g, 0, none⟩ → B ≤ g ∧ g < W.heap.size) := by
  obtain ⟨_, ⟨rfl, h2⟩ | ⟨g, cap, cur, rfl, h3, h4, h5, h6, _⟩⟩ := h
  · have := List.length_eq_zero_iff.1 h2
    subst this
    exact ⟨_, _, rfl, by simp, fun h => absurd rfl h, fun g h => by cases h⟩
  · unfold maxLen at h6
    exact ⟨_, _, rfl, by omega, fun _ => ⟨g, rfl⟩, fun g' h => by cases h; exact ⟨h3, (Array.getElem?_eq_some_iff.1 h4).1⟩⟩
theorem own_src {W : World} {B : Nat} {a : Option Addr} {c : Nat} {d : Bs} (h : Own W B (.slice a d.length c) d) : Src W a d c := by
  have h0 := h
  obtain ⟨h1, ⟨h2, h3⟩ | ⟨g', cap, cur, h2, h3, h4, h5, h6, h7, h8⟩⟩ := h
  · simp only [Value.slice.injEq] at h2
    obtain ⟨rfl, h4, rfl⟩ := h2
    exact ⟨by omega, .inl (List.length_eq_zero_iff.1 h4)⟩
  · simp only [Value.slice.injEq, true_and] at h2
    obtain ⟨rfl, rfl⟩ := h2
    exact ⟨h5, .inr ⟨_, _, rfl, own_byt h0⟩⟩
/-- What Scan answers, in letters. -/
def rP : Res → Int
  | .inl (p, _) => p
  | .inr _ => 0
def rE : Res → Int
  | .inl (_, e) => e
  | .inr _ => 0
def rT : Res → List Tok
  | .inl (_, _) => []
  | .inr l => l
theorem sp_out {w w' : World} {R : Res} {e : Ending} (h : SP w R e w') : Below w.heap.size w w' ∧ ∃ v, e = .returned (.tuple #[v, .agg #[.int .i64 (rP R), .int .i64 (rE R)]]) ∧ Toks w' w.heap.size v (rT R) := by
  refine ⟨h.1, ?_⟩
  cases R with
  | inl qq2 => obtain ⟨p, er⟩ := qq2; exact ⟨_, h.2, World.ownsRow_nil _ _ _ _⟩
  | inr l => exact h.2
theorem sr_out {w w' : World} {R : Res} {e : Ending} (h : SR w R e w') : Below w.heap.size w w' ∧ ∃ v, e = .returned (.tuple #[v, .int .i64 (rP R), .int .i64 (rE R)]) ∧ Toks w' w.heap.size v (rT R) := by
  refine ⟨h.1, ?_⟩
  cases R with
  | inl qq2 => obtain ⟨p, er⟩ := qq2; exact ⟨_, h.2, World.ownsRow_nil _ _ _ _⟩
  | inr l => exact h.2
/-- Room for so many bytes that may be written. -/
def Gw (w : World) (g n : Nat) : Prop := ∀ i, i < n → (∃ v, w.cell? ⟨g, i, none⟩ = some v) ∧ w.frozen? ⟨g, i, none⟩ = false
theorem Gw.set {w : World} {g n : Nat} (h : Gw w g n) (j : Nat) (v : Value) : Gw (w.setCell ⟨g, j, none⟩ v) g n := fun i hi => by
  obtain ⟨⟨u, h1⟩, h2⟩ := h i hi
  refine ⟨?_, by simpa using h2⟩
  by_cases e : j = i
  · subst e; exact ⟨_, World.cell?_setCell_same _ _ _ h1⟩
  · exact ⟨u, by have := World.cell?_setCell_other (w := w) (a := ⟨g, j, none⟩) (b := ⟨g, i, none⟩) (v := v) (fun h => e (by cases h; rfl)); rw [this]; exact h1⟩
theorem Gw.grown {w w' : World} {g n : Nat} (h : Gw w g n) (hB : Below w.heap.size w w') (hg : g < w.heap.size) : Gw w' g n := fun i hi => by
  obtain ⟨⟨u, h1⟩, h2⟩ := h i hi
  exact ⟨⟨u, (hB.cell (p := ⟨g, i, none⟩) hg).trans h1⟩, (hB.frozen (p := ⟨g, i, none⟩) hg).trans h2⟩
theorem own_gw {W : World} {B g c : Nat} {d : Bs} (h : Own W B (.slice (some ⟨g, 0, none⟩) d.length c) d) : Gw W g d.length ∧ B ≤ g ∧ g < W.heap.size ∧ d.length ≤ c := by
  have hb := own_byt h
  obtain ⟨_, ⟨h2, _⟩ | ⟨g', cap, cur, h2, h3, h4, h5, h6, _⟩⟩ := h
  · cases h2
  · cases h2
    refine ⟨fun i hi => ⟨⟨_, by have := hb i hi; rwa [Nat.zero_add] at this⟩, ?_⟩, h3, (Array.getElem?_eq_some_iff.1 h4).1, h5⟩
    simp [World.frozen?, h4]
theorem grow_set {w w' : World} {b : Nat} (h : w.grownBy w' (some b)) (j : Nat) (v : Value) : w.grownBy (w'.setCell ⟨b, j, none⟩ v) (some b) :=
  ⟨h.os, h.tape, h.output, by simpa [World.setCell] using h.size, fun k hk hne => (RowKit.Below.heap_setCell _ _ _ _ (by intro e; exact hne (by rw [e]))).trans (h.block k hk hne)⟩
theorem conv_all {w : World} {b o : Nat} {l : Bs} (h : Byt w b o l) (cap : Nat) : (convert 22 9 (.slice (some ⟨b, o, none⟩) l.length cap)).run Tryd.prog w = .ok (.string (bs l)) w := by
  have := conv_win h 0 l.length cap (by omega)
  rw [List.drop_zero, List.take_of_length_le (Nat.le_refl _), Nat.add_zero] at this
  exact this

set_option maxRecDepth 100000 in
set_option maxHeartbeats 8000000 in
theorem law_reads_some {w : World} (b o : Nat) (l : Bs) (c : Nat) (hl0 : l ≠ []) (hl : Byt w b o l) (hc : l.length ≤ c) (hm : l.length ≤ 140737488351232) (hv : Sv w) : Calls Tryd.prog 3 #[.slice (some ⟨b, o, none⟩) l.length c] w fun e w' => e = .returned (.bool true) ∧ Below w.heap.size w w' := by
  have KE : Hid (∀ W, Below w.heap.size w W → Calls Tryd.prog 6 #[] W fun e w' => e = .returned (.bool true) ∧ Below w.heap.size w w') := fun W h => (awake_any W (hv.below h (Nat.le_refl _))).mono fun e w' ⟨h1, h2⟩ => ⟨h1, h.trans (h2.mono h.size)⟩
  have hb : b < w.heap.size := hl.lt (List.length_pos_iff.2 hl0)
  have hp0 : 0 < l.length := List.length_pos_iff.2 hl0
  obtain ⟨R, hR⟩ : ∃ R, scan l = R := ⟨_, rfl⟩
  have KA : Hid (∀ (g cp : Nat) (W : World), Below w.heap.size w W → Byt W g 0 l → l.length ≤ cp → Calls Tryd.prog 4 #[.slice (some ⟨g, 0, none⟩) l.length cp] W fun e w' => Below W.heap.size W w' ∧ ∃ v, e = .returned (.tuple #[v, .agg #[.int .i64 (rP R), .int .i64 (rE R)]]) ∧ Toks w' W.heap.size v (rT R)) := fun g cp W hW hB hcp => by
    have := scan_all (some ⟨g, 0, none⟩) l cp W ⟨hcp, .inr ⟨g, 0, rfl, hB⟩⟩ (by omega) (hv.below hW (Nat.le_refl _))
    rw [hR] at this
    exact this.mono fun e w' h => sp_out h
  have KR : Hid (∀ W, Below w.heap.size w W → Calls Tryd.prog 5 #[.slice (some ⟨b, o, none⟩) l.length c] W fun e w' => Below W.heap.size W w' ∧ ∃ v, e = .returned (.tuple #[v, .int .i64 (rP R), .int .i64 (rE R)]) ∧ Toks w' W.heap.size v (rT R)) := fun W hW => by
    have := rscan_all (some ⟨b, o, none⟩) l c W ⟨hc, .inr ⟨b, o, rfl, hl.below hW hb⟩⟩ (by omega)
    rw [hR] at this
    exact this.mono fun e w' h => sr_out h
  have KS : Hid (∀ W, Below w.heap.size w W → (convert 22 9 (.slice (some ⟨b, o, none⟩) l.length c)).run Tryd.prog W = .ok (.string (bs l)) W) := fun W hW => conv_all (hl.below hW hb) c
  have hnw : ∀ k u, (l.map fun x => Value.int .u8 (x.toNat : Int))[k]? = some u → w.cell? ((⟨b, o, none⟩ : Addr).add k) = some u := fun k u hk => by
    rw [List.getElem?_map] at hk
    obtain ⟨x, hx, rfl⟩ := Option.map_eq_some_iff.1 hk
    obtain ⟨hkl, rfl⟩ := List.getElem?_eq_some_iff.1 hx
    rw [WideShapes.add_plain]
    exact hl k hkl
  have HNW := Lib.hid hnw
  have KW : Hid (∀ (v : Value) (W : World), W.ownsRow w.heap.size 5 1 v (0 + l.length) ([] ++ l.map fun x => Value.int .u8 (x.toNat : Int)) → ∃ g cp, v = .slice (some ⟨g, 0, none⟩) l.length cp ∧ Byt W g 0 l ∧ Gw W g l.length ∧ w.heap.size ≤ g ∧ g < W.heap.size ∧ l.length ≤ cp) := fun v W h => by
    rw [Nat.zero_add, List.nil_append] at h
    have h' : Own W w.heap.size v l := h
    obtain ⟨_, ⟨_, h3⟩ | ⟨g, cap, cur, rfl, _⟩⟩ := h
    · omega
    · obtain ⟨h1, h2, h3, h4⟩ := own_gw h'
      exact ⟨g, cap, rfl, own_byt h', h1, h2, h3, h4⟩
  generalize rP R = P at KA KR
  generalize rE R = E at KA KR
  generalize rT R = ts at KA KR
  have e1 : ((bs l).toList == (bs l).toList) = true := by simp
  have e2 : ((bs l).toList != (bs l).toList) = false := by simp
  have KC : Hid (∀ (W : World) (g cp : Nat), Byt W g 0 l → (convert 22 9 (.slice (some ⟨g, 0, none⟩) l.length cp)).run Tryd.prog W = .ok (.string (bs l)) W) := fun W g cp h => conv_all h cp
  have HLM : Hid ((l.map fun x => Value.int .u8 (x.toNat : Int)).length = l.length * 1) := by show _ = _; simp
  have HL1 : Hid (∀ u ∈ l.map fun x => Value.int .u8 (x.toNat : Int), u.oneCell' = true) := fun u hu => by obtain ⟨x, _, rfl⟩ := List.mem_map.1 hu; rfl
  clear hv hl hR hnw hl0
  obtain ⟨i0, hi0, hz0, hz1, hz2⟩ := info_parts infoU8
  generalize hN : l.length = n at *
  generalize bs l = X at *
  generalize hM : (l.map fun x => Value.int .u8 (x.toNat : Int)) = M at *
  clear hM
  go_enter Tryd.func3, Tryd.ntmps3
  go_wp2_with (first
    | (at_builtin; refine wpList_append_own_at _ rfl _ _ 22 rfl w.heap.size 5 i0 (.int .u8 0) 1 1 Tryd.underlying22 hi0 hz0 hz1 hz2 rfl (by decide) (.slice none 0 0) 0 [] rfl (World.ownsRow_nil _ _ _ _) ⟨b, o, none⟩ n c M rfl HLM.out HNW.out HL1.out (by unfold maxLen; omega) (by omega) (Nat.le_refl _) ?_; intro v1 w1 ho1 hg1 hn1 ha1))
  obtain ⟨g, cp, rfl, hby, hgw, hgB, hgl, hcp⟩ := KW.out v1 w1 ho1
  have b1 : Below w.heap.size w w1 := below_grown (v := .slice none 0 0) (Below.refl w.heap.size w) hg1 (World.ownsRow_nil (e := 5) (size := 1) w _ ) (Nat.le_refl _)
  have K1 := Lib.hid (KA.out g cp w1 b1 hby hcp)
  have HBY := Lib.hid hby
  have HGW := Lib.hid hgw
  have HB1 := Lib.hid b1
  clear ho1 hg1 hn1 ha1 KW KA hby hgw b1 HNW HLM HL1
  go_wp2_with fail
  refine K1.out.mono ?_
  rintro e w2 ⟨b2, v, rfl, ht⟩
  obtain ⟨av, cv, rfl, hlen, hav, hgv⟩ := toks_slice ht
  have kc := KC.out (w2.alloc (.cells #[.int .i64 P, .int .i64 E] 26)) g cp (HBY.out.below (b2.alloc b2.size _) hgl)
  have HB2 : Hid (Below w.heap.size w (w2.alloc (.cells #[.int .i64 P, .int .i64 E] 26))) := HB1.out.trans ((b2.alloc b2.size _).mono HB1.out.size)
  have ks := KS.out (w2.alloc (.cells #[.int .i64 P, .int .i64 E] 26)) HB2.out
  have HT2 : Hid (Toks (w2.alloc (.cells #[.int .i64 P, .int .i64 E] 26)) w1.heap.size (.slice av ts.length cv) ts) := ht.alloc _
  have HG2 : Hid (Gw (w2.alloc (.cells #[.int .i64 P, .int .i64 E] 26)) g n) := HGW.out.grown (b2.alloc b2.size _) hgl
  have hw2 := b2.size
  clear b2 ht K1 HBY HGW KC KS
  go_wp2_with fail
  obtain ⟨W2, hW2⟩ : ∃ W2, W2 = w2.alloc (.cells #[.int .i64 P, .int .i64 E] 26) := ⟨_, rfl⟩
  have HW2 := Lib.hid hW2
  have f0 : Hid (W2.cell? ⟨w2.heap.size, 0, none⟩ = some (.int .i64 P) ∧ W2.cell? ⟨w2.heap.size, 1, none⟩ = some (.int .i64 E) ∧ w2.heap.size < W2.heap.size) := by
    show _ ∧ _ ∧ _
    rw [hW2]
    exact ⟨by rw [cell_new]; rfl, by rw [cell_new]; rfl, by simp⟩
  rw [← hW2] at HT2 HG2 HB2
  clear hW2 kc ks e1 e2
  go_loopg [6] n (fun gk s6 wx => ∃ j : Nat, j + gk = n ∧ s6 = .int .i64 j ∧ W2.grownBy wx (some g) ∧ Gw wx g n)
  case atStart => rw [← HW2.out]; exact ⟨0, by omega, rfl, World.grownBy.refl _ _, HG2.out⟩
  case round =>
    obtain ⟨j, hjg, rfl, hgr, hgw⟩ := hrel
    have HGR := Lib.hid hgr
    have HGW := Lib.hid hgw
    clear hgr hgw
    cases gk with
    | succ gq =>
      have hj : j < n := by omega
      have hj2 : (j : Int) < (n : Int) := by omega
      obtain ⟨⟨u, c1⟩, c2⟩ := HGW.out j hj
      go_wp2_with fail
      go_roundg gq
      case measure => omega
      case rel => exact ⟨j + 1, by omega, by first | rfl | simp, grow_set HGR.out j _, HGW.out.set j _⟩
    | zero =>
      obtain rfl : j = n := by omega
      have hz2 := HGR.out.size
      have hBx : Below w.heap.size w wr := HB2.out.grown HGR.out HB2.out.size (fun k hk => by cases hk; exact hgB)
      have HT3 : Hid (Toks wr w1.heap.size (.slice av ts.length cv) ts) := by
        refine HT2.out.kept HGR.out ?_
        cases av with
        | none => exact .inl rfl
        | some x =>
          right
          have hne : ts ≠ [] ∨ ts = [] := by cases ts <;> simp
          intro hx
          simp only [Value.ownBlock, Option.some.injEq] at hx
          obtain ⟨_, ⟨h2, _⟩ | ⟨g', cap, cur, h2, h3, _⟩⟩ := HT2.out
          · cases h2
          · cases h2; simp at hx; omega
      have hne : some w2.heap.size ≠ some g := by simp; omega
      have f3 : Hid (wr.cell? ⟨w2.heap.size, 0, none⟩ = some (.int .i64 P) ∧ wr.cell? ⟨w2.heap.size, 1, none⟩ = some (.int .i64 E) ∧ w2.heap.size < wr.heap.size) := ⟨HGR.out.cell f0.out.1 hne, HGR.out.cell f0.out.2.1 hne, by have := f0.out.2.2; omega⟩
      have K1 := Lib.hid (KR.out wr hBx)
      have HBX := Lib.hid hBx
      clear KR HT2 f0 HGR HGW hBx HG2 HB2 HW2 hne
      go_wp2_with fail
      refine K1.out.mono ?_
      rintro e w3 ⟨b3, v3, rfl, ht3⟩
      obtain ⟨a3, c3, rfl, _, ha3, _⟩ := toks_slice ht3
      have HT4 := Lib.hid (owns_held HT3.out b3)
      have HT5 := Lib.hid ht3
      have f1 : w3.cell? ⟨w2.heap.size, 0, none⟩ = some (.int .i64 P) := (b3.cell (p := ⟨w2.heap.size, 0, none⟩) f3.out.2.2).trans f3.out.1
      have f2 : w3.cell? ⟨w2.heap.size, 1, none⟩ = some (.int .i64 E) := (b3.cell (p := ⟨w2.heap.size, 1, none⟩) f3.out.2.2).trans f3.out.2.1
      have HB3 := Lib.hid (HBX.out.trans (b3.mono HBX.out.size))
      clear ht3 K1 HT3 b3 f3
      go_wp2_with fail
      go_loopg [10] ts.length (fun gk s10 wx => ∃ j : Nat, j + gk = ts.length ∧ s10 = .int .i64 j ∧ Below w3.heap.size w3 wx)
      case atStart => exact ⟨0, by omega, rfl, Below.refl _ _⟩
      case round =>
        obtain ⟨i, hig, rfl, hbx⟩ := hrel
        have HX := Lib.hid hbx
        have HBZ := Lib.hid (HB3.out.trans (hbx.mono HB3.out.size))
        have T1 := Lib.hid (owns_held HT4.out hbx)
        have T2 := Lib.hid (owns_held HT5.out hbx)
        clear hbx f1 f2
        cases gk with
        | zero =>
          obtain rfl : i = ts.length := by omega
          go_wp2_with fail
          refine (KE.out _ HBZ.out).mono ?_
          rintro e w4 ⟨rfl, b4⟩
          go_wp2_with fail
          go_ret
          exact ⟨rfl, b4⟩
        | succ gq =>
          have hil : i < ts.length := by omega
          have hi2 : (i : Int) < (ts.length : Int) := by omega
          have hi0' : (0 : Int) ≤ (i : Int) := by omega
          obtain ⟨gb, rfl⟩ := hav (by intro h; rw [h] at hil; simp at hil)
          obtain ⟨g3, rfl⟩ := ha3 (by intro h; rw [h] at hil; simp at hil)
          obtain ⟨t, ht⟩ : ∃ t, ts[i]? = some t := ⟨ts[i], List.getElem?_eq_getElem hil⟩
          obtain ⟨s0, s1, s2, s3, s4⟩ := tok_cell T1.out i t ht
          obtain ⟨r0, r1, r2, r3, r4⟩ := tok_cell T2.out i t ht
          clear ht
          generalize t.kind = A1 at *
          generalize t.pos = A4 at *
          generalize t.fin = A5 at *
          generalize t.num = A2 at *
          generalize bs t.text = A3 at *
          have e3 : (A3.toList == A3.toList) = true := by simp
          clear KE HT4 HT5 HB3
          go_wp2_with fail
          go_quiet (fail)
          go_wp2_with fail
          go_roundg gq
          case measure => omega
          case rel => exact ⟨i + 1, by omega, by first | rfl | simp, below_drewN HX.out _⟩

theorem conv_none (A : Option Addr) (C : Nat) (W : World) : (convert 22 9 (.slice A 0 C)).run Tryd.prog W = .ok (.string ⟨#[]⟩) W := by
  rw [run_convert_bytes_string W 22 9 5 A 0 C und22 und5 und9]
  cases A <;> rfl

set_option maxRecDepth 100000 in
set_option maxHeartbeats 4000000 in
theorem law_reads_nil {w : World} (a : Option Addr) (c : Nat) (hv : Sv w) : Calls Tryd.prog 3 #[.slice a 0 c] w fun e w' => e = .returned (.bool true) ∧ Below w.heap.size w w' := by
  have KE : Hid (∀ W, Below w.heap.size w W → Calls Tryd.prog 6 #[] W fun e w' => e = .returned (.bool true) ∧ Below w.heap.size w w') := fun W h => (awake_any W (hv.below h (Nat.le_refl _))).mono fun e w' ⟨h1, h2⟩ => ⟨h1, h.trans (h2.mono h.size)⟩
  have KA : Hid (∀ W, Calls Tryd.prog 4 #[.slice none 0 0] W fun e w' => Below W.heap.size W w' ∧ ∃ av cv, e = .returned (.tuple #[.slice av 0 cv, .agg #[.int .i64 0, .int .i64 0]])) := fun W => (scan_nil none 0 W).mono fun e w' h => by
    obtain ⟨h1, v, h2, h3⟩ := sp_out h
    obtain ⟨av, cv, rfl, _⟩ := toks_slice h3
    exact ⟨h1, av, cv, h2⟩
  have KR : Hid (∀ W, Calls Tryd.prog 5 #[.slice a 0 c] W fun e w' => Below W.heap.size W w' ∧ ∃ av cv, e = .returned (.tuple #[.slice av 0 cv, .int .i64 0, .int .i64 0])) := fun W => (rscan_nil a c W).mono fun e w' h => by
    obtain ⟨h1, v, h2, h3⟩ := sr_out h
    obtain ⟨av, cv, rfl, _⟩ := toks_slice h3
    exact ⟨h1, av, cv, h2⟩
  have kz : ∀ (A : Option Addr) (C : Nat) (W : World), (convert 22 9 (.slice A 0 C)).run Tryd.prog W = .ok (.string ⟨#[]⟩) W := fun A C W => conv_none A C W
  clear hv
  cases a with
  | none =>
    go_enter Tryd.func3, Tryd.ntmps3
    have b1 := Below.refl w.heap.size w
    go_wp2_with (first
      | (go_at_call 4; refine (KA.out _).mono ?_; rintro e w2 ⟨b2, av, cv, rfl⟩))
    go_loopg [6] 0 (fun gk s6 wx => s6 = .int .i64 0 ∧ wx = w2.alloc (.cells #[.int .i64 0, .int .i64 0] 26))
    case atStart => exact ⟨rfl, rfl⟩
    case round =>
      obtain ⟨rfl, rfl⟩ := hrel
      have f : ∀ w3, Below (w2.alloc (.cells #[.int .i64 0, .int .i64 0] 26)).heap.size (w2.alloc (.cells #[.int .i64 0, .int .i64 0] 26)) w3 → w3.cell? ⟨w2.heap.size, 0, none⟩ = some (.int .i64 0) ∧ w3.cell? ⟨w2.heap.size, 1, none⟩ = some (.int .i64 0) := fun w3 h => ⟨(h.cell (p := ⟨w2.heap.size, 0, none⟩) (by simp)).trans (by rw [cell_new]; rfl), (h.cell (p := ⟨w2.heap.size, 1, none⟩) (by simp)).trans (by rw [cell_new]; rfl)⟩
      have HF := Lib.hid f
      clear f
      go_wp2_with (first
        | (go_at_call 5; refine (KR.out _).mono ?_; rintro e w3 ⟨b3, a3, c3, rfl⟩; obtain ⟨f0, f1⟩ := HF.out w3 b3))
      go_loopg [10] 0 (fun gk s10 wx => s10 = .int .i64 0 ∧ wx = w3)
      case atStart => exact ⟨rfl, rfl⟩
      case round =>
        obtain ⟨rfl, rfl⟩ := hrel
        have HB := Lib.hid (b1.trans ((b2.alloc b2.size _).mono b1.size) |>.trans (b3.mono (Nat.le_trans b1.size (Nat.le_trans b2.size (by simp)))))
        go_wp2_with (first
          | (go_at_call 6; refine (KE.out _ HB.out).mono ?_; rintro e w4 ⟨rfl, b4⟩))
        go_ret
        exact ⟨rfl, b4⟩
  | some ad =>
    obtain ⟨i0, hi0, hz0, hz1, hz2⟩ := info_parts infoU8
    go_enter Tryd.func3, Tryd.ntmps3
    go_wp2_with (first
      | (at_builtin; refine wpList_append_own_at _ rfl _ _ 22 rfl w.heap.size 5 i0 (.int .u8 0) 1 1 Tryd.underlying22 hi0 hz0 hz1 hz2 rfl (by decide) (.slice none 0 0) 0 [] rfl (World.ownsRow_nil _ _ _ _) ad 0 c [] rfl rfl (by simp) (by simp) (by unfold maxLen; omega) (by omega) (Nat.le_refl _) ?_; intro v1 w1 ho1 hg1 hn1 ha1))
    obtain rfl := hn1.2 ⟨trivial, trivial⟩
    have b1 : Below w.heap.size w w1 := below_grown (v := .slice none 0 0) (Below.refl w.heap.size w) hg1 (World.ownsRow_nil (e := 5) (size := 1) w _ ) (Nat.le_refl _)
    clear ho1 hg1 hn1 ha1
    go_wp2_with (first
      | (go_at_call 4; refine (KA.out _).mono ?_; rintro e w2 ⟨b2, av, cv, rfl⟩))
    go_loopg [6] 0 (fun gk s6 wx => s6 = .int .i64 0 ∧ wx = w2.alloc (.cells #[.int .i64 0, .int .i64 0] 26))
    case atStart => exact ⟨rfl, rfl⟩
    case round =>
      obtain ⟨rfl, rfl⟩ := hrel
      have f : ∀ w3, Below (w2.alloc (.cells #[.int .i64 0, .int .i64 0] 26)).heap.size (w2.alloc (.cells #[.int .i64 0, .int .i64 0] 26)) w3 → w3.cell? ⟨w2.heap.size, 0, none⟩ = some (.int .i64 0) ∧ w3.cell? ⟨w2.heap.size, 1, none⟩ = some (.int .i64 0) := fun w3 h => ⟨(h.cell (p := ⟨w2.heap.size, 0, none⟩) (by simp)).trans (by rw [cell_new]; rfl), (h.cell (p := ⟨w2.heap.size, 1, none⟩) (by simp)).trans (by rw [cell_new]; rfl)⟩
      have HF := Lib.hid f
      clear f
      go_wp2_with (first
        | (go_at_call 5; refine (KR.out _).mono ?_; rintro e w3 ⟨b3, a3, c3, rfl⟩; obtain ⟨f0, f1⟩ := HF.out w3 b3))
      go_loopg [10] 0 (fun gk s10 wx => s10 = .int .i64 0 ∧ wx = w3)
      case atStart => exact ⟨rfl, rfl⟩
      case round =>
        obtain ⟨rfl, rfl⟩ := hrel
        have HB := Lib.hid (b1.trans ((b2.alloc b2.size _).mono b1.size) |>.trans (b3.mono (Nat.le_trans b1.size (Nat.le_trans b2.size (by simp)))))
        go_wp2_with (first
          | (go_at_call 6; refine (KE.out _ HB.out).mono ?_; rintro e w4 ⟨rfl, b4⟩))
        go_ret
        exact ⟨rfl, b4⟩

theorem law_reads {w : World} (a : Option Addr) (l : Bs) (c : Nat) (hS : Src w a l c) (_ : a = none → c = 0) (hm : l.length ≤ 140737488351232) (hv : Sv w) : Calls Tryd.prog 3 #[.slice a l.length c] w fun e w' => e = .returned (.bool true) ∧ Below w.heap.size w w' := by
  cases l with
  | nil => exact law_reads_nil a c hv
  | cons x t =>
    obtain ⟨hc, h | ⟨b, o, rfl, hl⟩⟩ := hS
    · cases h
    · exact law_reads_some b o (x :: t) c (by simp) hl hc hm hv
end Go.Proofs.YtbkakdmkabhcnaaDoor
