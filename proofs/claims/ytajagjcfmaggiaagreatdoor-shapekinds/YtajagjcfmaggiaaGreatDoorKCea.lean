/- The package's Maps and Map: maps one behind the other; the conditions: the value in memory, valid, the numbers in memory, the tables as they are laid, the topic not too long. -/
import Derived.Test.YtajagjcfmaggiaaGreatDoorKCdi
import Derived.Test.YtajagjcfmaggiaaGreatDoorKCad
import Derived.Test.YtajagjcfmaggiaaGreatDoorKCce
import Derived.Test.YtajagjcfmaggiaaGreatDoorKCdj
namespace Go.Proofs.YtajagjcfmaggiaaGreatDoor
open Go.RowKit

def stepR (L : Lb) (tp : ByteArray) (r : Rs) (op : Int) : Rs := match r with
  | ⟨_, _, _, _, 0, t⟩ => Empty.elim t
  | ⟨_, _, _, _, _ + 1, t⟩ => mapP L op tp t
/-- Maps one behind the other. -/
def rows (L : Lb) (tp : ByteArray) : List Int → Rs → Rs
  | [], r => r
  | op :: l, r => if (stepR L tp r op).er = 0 then rows L tp l (stepR L tp r op) else stepR L tp r op
theorem step_good (L : Lb) (tp : ByteArray) {m : Nat} (t : Dt.Tr (m + 1)) (op : Int) : stepR L tp (good t) op = mapP L op tp t := rfl
theorem rows_good (L : Lb) (tp : ByteArray) (op : Int) (l : List Int) {m m' : Nat} (t : Dt.Tr (m + 1)) (t' : Dt.Tr (m' + 1)) (h : mapP L op tp t = good t') : rows L tp (op :: l) (good t) = rows L tp l (good t') := by
  have e : stepR L tp (good t) op = good t' := h
  simp only [rows, e]
  rfl
theorem rows_bad (L : Lb) (tp : ByteArray) (op : Int) (l : List Int) {m : Nat} (t : Dt.Tr (m + 1)) (er pk pn : Int) (her : (er == 0) = false) (h : mapP L op tp t = bad er pk pn) : rows L tp (op :: l) (good t) = bad er pk pn := by
  have e : stepR L tp (good t) op = bad er pk pn := h
  simp only [rows, e]
  exact if_neg (by simpa [bad] using her)
/-- What comes is a valid value, or an error. -/
theorem map_cases (L : Lb) (op : Int) (tp : ByteArray) {m : Nat} (t : Dt.Tr (m + 1)) (h : Ok (m + 1) t) : (∃ m' : Nat, ∃ t' : Dt.Tr (m' + 1), mapP L op tp t = good t' ∧ Ok (m' + 1) t') ∨ ∃ er pk pn, (er == 0) = false ∧ mapP L op tp t = bad er pk pn := by
  have hO := map_ok L op tp t h
  have key : (∃ n, ∃ t' : Dt.Tr n, mapP L op tp t = good t') ∨ ∃ er pk pn, (er == 0) = false ∧ mapP L op tp t = bad er pk pn := by
    unfold mapP
    split
    · split
      · exact .inl ⟨_, _, rfl⟩
      · exact .inr ⟨_, _, _, by decide, rfl⟩
    split
    · split
      · exact .inl ⟨_, _, rfl⟩
      · exact .inr ⟨_, _, _, by decide, rfl⟩
    split
    · split
      · cases t.ks with
        | nil => exact .inr ⟨_, _, _, by decide, rfl⟩
        | cons s l => exact .inl ⟨_, _, rfl⟩
      · split <;> exact .inr ⟨_, _, _, by decide, rfl⟩
    split
    · split
      · exact .inl ⟨_, _, rfl⟩
      · exact .inr ⟨_, _, _, by decide, rfl⟩
    split
    · split
      · exact .inl ⟨_, _, rfl⟩
      · exact .inr ⟨_, _, _, by decide, rfl⟩
    split
    · split
      · exact .inl ⟨_, _, rfl⟩
      · exact .inr ⟨_, _, _, by decide, rfl⟩
    split
    · split
      · exact .inl ⟨_, _, rfl⟩
      · exact .inr ⟨_, _, _, by decide, rfl⟩
    split
    · exact .inl ⟨_, _, rfl⟩
    · exact .inr ⟨_, _, _, by decide, rfl⟩
  rcases key with ⟨n, t', e⟩ | h
  · rw [e] at hO
    cases n with
    | zero => exact Empty.elim t'
    | succ n => exact .inl ⟨n, t', e, hO⟩
  · exact .inr h
/-- Numbers in a row. -/
def Ints (w : World) (ad : Option Addr) (l : List Int) : Prop := l = [] ∨ ∃ g o, ad = some ⟨g, o, none⟩ ∧ ∀ (j : Nat) (x : Int), l[j]? = some x → w.cell? ⟨g, o + j, none⟩ = some (.int .i64 x)
theorem Ints.below {w w' : World} {ad : Option Addr} {l : List Int} (h : Ints w ad l) (hb : Below w.heap.size w w') : Ints w' ad l := by
  rcases h with h | ⟨g, o, h1, h2⟩
  · exact .inl h
  · exact .inr ⟨g, o, h1, fun j x hx => (hb.cell (p := ⟨g, o + j, none⟩) (World.block_lt_of_cell? w _ (h2 j x hx))).trans (h2 j x hx)⟩
theorem set59 {w : World} {A : Nat} {y0 y1 y2 y3 y4 y5 y6 y7 y8 y9 : Value} {T : TypeId} (h : Bk w A #[y0, y1, y2, y3, y4, y5, y6, y7, y8, y9] T) (x0 x1 x2 x3 x4 : Value) {W : World} (hW : W = ((((w.setCell ⟨A, 5, none⟩ x0).setCell ⟨A, 6, none⟩ x1).setCell ⟨A, 7, none⟩ x2).setCell ⟨A, 8, none⟩ x3).setCell ⟨A, 9, none⟩ x4) :
    Bk W A #[y0, y1, y2, y3, y4, x0, x1, x2, x3, x4] T ∧ W.heap.size = w.heap.size ∧ (∀ g, g ≠ A → W.heap[g]? = w.heap[g]?) ∧ Below A w W := by
  subst hW
  have h0 : Bk _ A #[y0, y1, y2, y3, y4, x0, y6, y7, y8, y9] T := h.set 5 x0
  have h1 : Bk _ A #[y0, y1, y2, y3, y4, x0, x1, y7, y8, y9] T := h0.set 6 x1
  have h2 : Bk _ A #[y0, y1, y2, y3, y4, x0, x1, x2, y8, y9] T := h1.set 7 x2
  have h3 : Bk _ A #[y0, y1, y2, y3, y4, x0, x1, x2, x3, y9] T := h2.set 8 x3
  have h4 : Bk _ A #[y0, y1, y2, y3, y4, x0, x1, x2, x3, x4] T := h3.set 9 x4
  refine ⟨h4, by simp, fun g hg => ?_, ?_⟩
  · simp (disch := (simp; omega)) only [Below.heap_setCell]
  · exact (((((Below.refl A w).setCell (Nat.le_refl A) _).setCell (Nat.le_refl A) _).setCell (Nat.le_refl A) _).setCell (Nat.le_refl A) _).setCell (Nat.le_refl A) _
/-- Where Maps stands: its result's block, its r, and the tree of r's body. -/
structure Lp (w : World) (N : Nat) (m : Nat) (t : Dt.Tr (m + 1)) (k i u : Int) (s : ByteArray) (a : Option Addr) (n c : Nat) (wr : World) : Prop where
  b : Below w.heap.size w wr
  r : Bk wr (w.heap.size + 1) (rErr 0 0 0 0) 33
  v : Bk wr N (rcs 0 0 0 0 true k i u s a n c) 33
  z : Rz (fun g => g < wr.heap.size ∧ g ≠ w.heap.size + 1 ∧ g ≠ N) wr (m + 1) [.int .i64 k, .int .i64 i, .int .u64 u, .string s, .slice a n c] t
theorem Lp.step {w : World} {N : Nat} {m : Nat} {t : Dt.Tr (m + 1)} {k i u : Int} {s : ByteArray} {a : Option Addr} {n c : Nat} {wr w' : World} (h : Lp w N m t k i u s a n c wr) (hb : Below wr.heap.size wr w') : Lp w N m t k i u s a n c w' :=
  ⟨h.b.trans (hb.mono h.b.size), h.r.step hb, h.v.step hb, Rz.to (fun g hg => ⟨⟨Nat.lt_of_lt_of_le hg.1 hb.size, hg.2⟩, hb.block g hg.1⟩) _ _ _ h.z⟩
theorem Lp.set {w : World} {N : Nat} {m m' : Nat} {t : Dt.Tr (m + 1)} {t' : Dt.Tr (m' + 1)} {k i u : Int} {s : ByteArray} {a : Option Addr} {n c : Nat} {k' i' u' : Int} {s' : ByteArray} {a' : Option Addr} {n' c' : Nat} {W1 W2 W3 : World} (h : Lp w N m t k i u s a n c W1) (hN : w.heap.size + 1 < N) (hb : Below W1.heap.size W1 W2) (hz : Rz (fun g => (g < W1.heap.size ∧ g ≠ w.heap.size + 1 ∧ g ≠ N) ∨ (W1.heap.size ≤ g ∧ g < W2.heap.size)) W2 (m' + 1) [.int .i64 k', .int .i64 i', .int .u64 u', .string s', .slice a' n' c'] t')
    (k1 : Bk W3 N (rcs 0 0 0 0 true k' i' u' s' a' n' c') 33) (k2 : W3.heap.size = W2.heap.size) (k3 : ∀ g, g ≠ N → W3.heap[g]? = W2.heap[g]?) (k4 : Below N W2 W3) : Lp w N m' t' k' i' u' s' a' n' c' W3 := by
  have l1 := h.v.lt
  have l2 := hb.size
  have l3 := h.r.lt
  exact ⟨(h.step hb).b.trans (k4.mono (by omega)), (k3 _ (by omega)).trans ((h.step hb).r), k1, Rz.to (fun g hg => by
    rcases hg with ⟨h1, h2, h3⟩ | ⟨h1, h2⟩
    · exact ⟨⟨by omega, h2, h3⟩, k3 g h3⟩
    · exact ⟨⟨by omega, by omega, by omega⟩, k3 g (by omega)⟩) _ _ _ hz⟩
theorem drop_int (l : List Int) (j : Nat) (h : j < l.length) : l.drop j = l[j] :: l.drop (j + 1) := List.drop_eq_getElem_cons h

/-- A result that Maps gives. -/
def GM (r : Rs) (w : World) (e : Ending) (w' : World) : Prop := GP r.er r.pk r.pn r.has r.n r.t w e w'
theorem bad_end {er pk pn : Int} {r : Rs} {w W W' : World} {k' i' u' : Int} {s' : ByteArray} {a' : Option Addr} {n' c' : Nat} (h : bad er pk pn = r) (hz : Dt.Rep W 1 [.int .i64 k', .int .i64 i', .int .u64 u', .string s', .slice a' n' c'] (lfT 0 0)) (KF : Below w.heap.size w W') : GM r w (.returned (.agg (rcs er 0 pk pn false k' i' u' s' a' n' c'))) W' := by
  subst h
  obtain ⟨ad, cap, e, h1, h2, h3, -⟩ := hz
  exact ⟨_, _, _, _, _, _, _, rfl, ⟨ad, cap, e, h1, h2, h3, .inl rfl⟩, KF⟩

set_option maxRecDepth 100000 in
set_option maxHeartbeats 4000000 in
theorem maps_any (L : Lb) (ops : List Int) (ad : Option Addr) (cap : Nat) (tp : ByteArray) (htp : tp.size ≤ maxLen) (k i u : Int) (s : ByteArray) (a : Option Addr) (n c : Nat) {m : Nat} (t : Dt.Tr (m + 1)) (ho : Ok (m + 1) t) (w : World) (hr : Dt.Rep w (m + 1) [.int .i64 k, .int .i64 i, .int .u64 u, .string s, .slice a n c] t) (hI : Ints w ad ops) (hl : ops.length ≤ 1000000) (hT : Dt.Tab14 w) (hP : (∀ x ∈ ops, x = 5 → NameOk L w) ∨ (ops.length = 1 ∧ t.kd ≠ 2)) :
    Calls Tryz.prog 17 #[.slice ad ops.length cap, .string tp, .agg #[.int .i64 k, .int .i64 i, .int .u64 u, .string s, .slice a n c]] w (GM (rows L tp ops (good t)) w) := by
  obtain ⟨RR, hRR⟩ : ∃ RR, rows L tp ops (good t) = RR := ⟨_, rfl⟩
  rw [hRR]
  have HV := Lib.hid hRR
  clear hRR
  have HI := Lib.hid hI
  have HT := Lib.hid hT
  have HP := Lib.hid hP
  have HR := Lib.hid hr
  have HO := Lib.hid ho
  clear hI hT hP hr ho
  have B0 := below2 w (.cells #[.int .i64 k, .int .i64 i, .int .u64 u, .string s, .slice a n c] 25) (.cells (rErr 0 0 0 0) 33)
  have D0 : Bk ((w.alloc (.cells #[.int .i64 k, .int .i64 i, .int .u64 u, .string s, .slice a n c] 25)).alloc (.cells (rErr 0 0 0 0) 33)) w.heap.size #[.int .i64 k, .int .i64 i, .int .u64 u, .string s, .slice a n c] 25 := (Bk.new w _ _).alloc _
  have R0 := Bk.new2 w (.cells #[.int .i64 k, .int .i64 i, .int .u64 u, .string s, .slice a n c] 25) (rErr 0 0 0 0) 33
  go_enter Tryz.func17, Tryz.ntmps17
  go_wp2_with fail
  refine (told_ok k i u s a n c _).mono ?_
  rintro e w1 ⟨rfl, b1⟩
  obtain ⟨N, hN⟩ : ∃ N, w1.heap.size = N := ⟨_, rfl⟩
  have hN1 : w.heap.size + 1 < N := by have := b1.size; simp at this; omega
  have B1 := B0.trans (b1.mono B0.size)
  have L0 : Lp w N m t k i u s a n c (w1.alloc (.cells (rcs 0 0 0 0 true k i u s a n c) 33)) := ⟨B1.trans ((below1 _ _).mono B1.size), (R0.step b1).alloc _, hN ▸ Bk.new w1 _ _, Rz.to (fun g hg => by
    have h1 : g < w.heap.size := hg
    exact ⟨⟨by simp; omega, by omega, by omega⟩, ((below1 _ _).block g (by omega)).trans (B1.block g h1)⟩) _ _ _ (Rz.of_rep _ _ _ HR.out)⟩
  clear R0 D0 HR B0
  go_wp2_with fail
  go_loopw [14] (fun si wr => ∃ (j m0 : Nat) (t0 : Dt.Tr (m0 + 1)) (k i u : Int) (s : ByteArray) (a : Option Addr) (n c : Nat), si = .int .i64 j ∧ j ≤ ops.length ∧ Ok (m0 + 1) t0 ∧ rows L tp (ops.drop j) (good t0) = RR ∧ (j = 0 → t0.kd = t.kd) ∧ Lp w N m0 t0 k i u s a n c wr) (fun si _ => ops.length - (intOf si).toNat)
  case atStart => exact ⟨0, m, t, k, i, u, s, a, n, c, rfl, Nat.zero_le _, HO.out, HV.out, fun _ => rfl, L0⟩
  case round =>
    clear HV
    obtain ⟨j, m0, t0, k, i, u, s, a, n, c, rfl, hj, ho, hinv, hj0, Lw⟩ := hrel
    have HV := Lib.hid hinv
    have HJ := Lib.hid hj0
    clear hinv hj0
    by_cases hlt : j < ops.length
    · have hne : ops ≠ [] := by intro e; rw [e] at hlt; exact absurd hlt (Nat.not_lt_zero _)
      rcases HI.out with hk | ⟨g, o, hk1, hk2⟩
      · exact absurd hk hne
      subst hk1
      have e0 := hk2 j _ (List.getElem?_eq_getElem hlt)
      have hgl : g < w.heap.size := World.block_lt_of_cell? w _ e0
      have x0 := (Lw.b.cell (p := ⟨g, o + j, none⟩) hgl).trans e0
      have hv := HV.out
      rw [drop_int ops j hlt] at hv
      obtain ⟨x, hx⟩ : ∃ x, ops[j] = x := ⟨_, rfl⟩
      rw [hx] at hv x0
      have HM := Lib.hid (mappingOf_any x)
      have hcf := mcall x
      have hfl : ∀ (v0 v1 : Value) (w : World), (Instr.field 65 (.agg #[v0, v1]) 0).run Tryz.prog w = .ok v0 w := fun _ _ _ => by kernel_rfl
      have HBD := Lib.hid (fun (W : World) (LL : Lp w N m0 t0 k i u s a n c W) => body_any L x tp htp k i u s a n c t0 ho W _ (fun g hg => hg.1) LL.z (HT.out.below LL.b) (fun e e2 => by
        rcases HP.out with h | ⟨h1, h2⟩
        · exact (h x (hx ▸ List.getElem_mem hlt) e).below LL.b
        · exact absurd ((HJ.out (by omega)).symm.trans e2) h2))
      clear e0 hk2 HI HV hx
      rcases map_cases L x tp t0 ho with ⟨m', t', ht', ho'⟩ | ⟨er, pk, pn, her, ht'⟩
      · rw [rows_good L tp x _ t0 t' ht'] at hv
        have HV' := Lib.hid hv
        have HB : Hid (∀ (W : World) (_ : Lp w N m0 t0 k i u s a n c W), Calls Tryz.prog (mfn x) #[.string tp, .agg #[.int .i64 k, .int .i64 i, .int .u64 u, .string s, .slice a n c]] W fun e w' => ∃ k' i' u' s' a' n' c', e = .returned (.agg (rcs 0 0 0 0 true k' i' u' s' a' n' c')) ∧ Rz (fun g => (g < W.heap.size ∧ g ≠ w.heap.size + 1 ∧ g ≠ N) ∨ (W.heap.size ≤ g ∧ g < w'.heap.size)) w' (m' + 1) [.int .i64 k', .int .i64 i', .int .u64 u', .string s', .slice a' n' c'] t' ∧ Below W.heap.size W w') := fun W L => by
          have := HBD.out W L
          rw [ht'] at this
          exact this
        clear hv HBD ht'
        go_wp2_with fail
        have L1 := Lw.step (Below.refl wr.heap.size wr).drew
        refine wp_region_held_drew (S := fun _ => True) (by kernel_rfl) trivial (fun hHeld => ?_)
        clear Lw x0
        generalize wr.drew = w1 at *
        refine wpAnyH_take (i := 0) (oi := { dst := some 18, op := Op.move (Operand.tmp 9), type := 3, pos := _, after := #[], guard := none }) (v := ?tga1) rfl (by kernel_rfl) (by kernel_rfl) (by kernel_rfl) (fun _ _ _ h => h) (Or.inl ⟨by rfl, ?uga1⟩) (by assumption) ?rga1
        case uga1 => (intro w hSw; (try dsimp only at hSw); go_simp; (try with_reducible rfl))
        simp only [Act.put, List.setIfInBounds_toArray, List.set_cons_zero, List.set_cons_succ]
        refine wpAnyH_take (i := 3) (oi := { dst := some 21, op := Op.move (Operand.tmp 1), type := 9, pos := _, after := #[], guard := none }) (v := ?tga2) rfl (by kernel_rfl) (by kernel_rfl) (by kernel_rfl) (fun _ _ _ h => h) (Or.inl ⟨by rfl, ?uga2⟩) (by assumption) ?rga2
        case uga2 => (intro w hSw; (try dsimp only at hSw); go_simp; (try with_reducible rfl))
        simp only [Act.put, List.setIfInBounds_toArray, List.set_cons_zero, List.set_cons_succ]
        refine wpAnyH_take (i := 4) (oi := { dst := some 22, op := Op.fieldAddr 33 (Operand.tmp 7) 4, type := 0, pos := _, after := #[], guard := none }) (v := ?tga3) rfl (by kernel_rfl) (by kernel_rfl) (by kernel_rfl) (fun _ _ _ h => h) (Or.inl ⟨by rfl, ?uga3⟩) (by assumption) ?rga3
        case uga3 => (intro w hSw; (try dsimp only at hSw); go_simp; (try with_reducible rfl))
        simp only [Act.put, List.setIfInBounds_toArray, List.set_cons_zero, List.set_cons_succ]
        refine wpAnyH_ready (rs := [1, 5]) (by kernel_rfl) (by simp) ?_
        refine AllReadyH.cons (o := { dst := some 19, op := Op.call { callee := Callee.value (Operand.func 35), args := #[Operand.tmp 18], argTypes := #[3] }, type := 65, pos := _, after := #[{ on := 0, ground := Ground.data }], guard := none }) rfl (fun K hK => ?_) (AllReadyH.cons (o := { dst := some 23, op := Op.load 25 (Operand.tmp 22), type := 25, pos := _, after := #[{ on := 4, ground := Ground.data }], guard := none }) rfl (fun K hK => ?_) AllReadyH.nil)
        · go_simp
          refine (HM.out _).mono ?_
          rintro e wy1 ⟨rfl, e1⟩
          have L1 := L1.step e1
          clear e1
          go_wp2_with fail
          refine hK.out _ _ trivial (fun hH1 => ?_)
          clear hK K
          (try simp only [Act.put, List.setIfInBounds_toArray, List.set_cons_zero, List.set_cons_succ])
          refine wpAnyH_take (i := 2) (oi := { dst := some 20, op := Op.field 65 (Operand.tmp 19) 0, type := 62, pos := _, after := #[{ on := 1, ground := Ground.data }], guard := none }) (v := ?tga4) rfl (by kernel_rfl) (by kernel_rfl) (by kernel_rfl) (fun _ _ _ h => h) (Or.inl ⟨by rfl, ?uga4⟩) (by assumption) ?rga4
          case uga4 => (intro w hSw; (try dsimp only at hSw); go_simp; (try with_reducible rfl))
          simp only [Act.put, List.setIfInBounds_toArray, List.set_cons_zero, List.set_cons_succ]
          refine wpAnyH_ready (rs := [5]) (by kernel_rfl) (by simp) ?_
          refine AllReadyH.cons (o := { dst := some 23, op := Op.load 25 (Operand.tmp 22), type := 25, pos := _, after := #[{ on := 4, ground := Ground.data }], guard := none }) rfl (fun K hK => ?_) AllReadyH.nil
          obtain ⟨c0, c1, c2, c3, c4, c5, c6, c7, c8, c9⟩ := L1.v.c10
          go_simp
          clear c0 c1 c2 c3 c4 c5 c6 c7 c8 c9
          refine hK.out _ _ trivial (fun hH2 => ?_)
          clear hK K
          (try simp only [Act.put, List.setIfInBounds_toArray, List.set_cons_zero, List.set_cons_succ])
          refine wpAnyH_ready (rs := [6]) (by kernel_rfl) (by simp) ?_
          refine AllReadyH.cons (o := { dst := some 24, op := Op.call { callee := Callee.value (Operand.tmp 20), args := #[Operand.tmp 21, Operand.tmp 23], argTypes := #[9, 25] }, type := 33, pos := _, after := #[{ on := 2, ground := Ground.data }, { on := 3, ground := Ground.data }, { on := 5, ground := Ground.data }, { on := 1, ground := Ground.chain }], guard := none }) rfl (fun K hK => ?_) AllReadyH.nil
          go_simp
          refine (HB.out _ L1).mono ?_
          rintro e wy3 ⟨k', i', u', s', a', n', c', rfl, hz, e3⟩
          have HZ := Lib.hid hz
          clear hz
          go_wp2_with fail
          refine hK.out _ _ trivial (fun hH3 => ?_)
          clear hK K
          (try simp only [Act.put, List.setIfInBounds_toArray, List.set_cons_zero, List.set_cons_succ])
          refine wpAnyH_ready (rs := [7]) (by kernel_rfl) (by simp) ?_
          refine AllReadyH.cons (o := { dst := none, op := Op.store 33 (Operand.tmp 7) (Operand.tmp 24), type := 0, pos := _, after := #[{ on := 6, ground := Ground.data }, { on := 6, ground := Ground.chain }, { on := 0, ground := Ground.phase }, { on := 1, ground := Ground.phase }, { on := 2, ground := Ground.phase }, { on := 3, ground := Ground.phase }, { on := 4, ground := Ground.phase }, { on := 5, ground := Ground.phase }, { on := 6, ground := Ground.phase }], guard := none }) rfl (fun K hK => ?_) AllReadyH.nil
          have v4 := L1.v.step e3
          obtain ⟨c0, c1, c2, c3, c4, c5, c6, c7, c8, c9⟩ := v4.c10
          have zf := v4.f
          go_simp
          clear c0 c1 c2 c3 c4 c5 c6 c7 c8 c9 zf
          obtain ⟨W9, hW9⟩ : ∃ W9, W9 = ((((((((((wy3.setCell ⟨N, 0, none⟩ (.int .i64 0)).setCell ⟨N, 1, none⟩ (.int .i64 0)).setCell ⟨N, 2, none⟩ (.int .i64 0)).setCell ⟨N, 3, none⟩ (.int .i64 0)).setCell ⟨N, 4, none⟩ (.bool true)).setCell ⟨N, 5, none⟩ (.int .i64 k')).setCell ⟨N, 6, none⟩ (.int .i64 i')).setCell ⟨N, 7, none⟩ (.int .u64 u')).setCell ⟨N, 8, none⟩ (.string s')).setCell ⟨N, 9, none⟩ (.slice a' n' c')) := ⟨_, rfl⟩
          obtain ⟨k1, k2, k3, k4⟩ := set10 v4 (.int .i64 0) (.int .i64 0) (.int .i64 0) (.int .i64 0) (.bool true) (.int .i64 k') (.int .i64 i') (.int .u64 u') (.string s') (.slice a' n' c') hW9
          rw [← hW9]
          clear hW9
          refine hK.out _ _ trivial (fun hH4 => ?_)
          clear hK K
          (try simp only [Act.put, List.setIfInBounds_toArray, List.set_cons_zero, List.set_cons_succ])
          refine wpAnyH_done (by kernel_rfl) ?_ _
          have L9 := L1.set hN1 e3 HZ.out k1 k2 k3 k4
          obtain ⟨c0, c1, c2, c3, c4, c5, c6, c7, c8, c9⟩ := L9.v.c10
          clear k1 k2 k3 k4
          go_wp2_with fail
          exact ⟨⟨j + 1, m', t', k', i', u', s', a', n', c', by go_num, by omega, ho', HV'.out, fun h => absurd h (by omega), L9⟩, by simp [intOf]; omega⟩
        · obtain ⟨c0, c1, c2, c3, c4, c5, c6, c7, c8, c9⟩ := L1.v.c10
          go_simp
          clear c0 c1 c2 c3 c4 c5 c6 c7 c8 c9
          refine hK.out _ _ trivial (fun hH5 => ?_)
          clear hK K
          (try simp only [Act.put, List.setIfInBounds_toArray, List.set_cons_zero, List.set_cons_succ])
          refine wpAnyH_ready (rs := [1]) (by kernel_rfl) (by simp) ?_
          refine AllReadyH.cons (o := { dst := some 19, op := Op.call { callee := Callee.value (Operand.func 35), args := #[Operand.tmp 18], argTypes := #[3] }, type := 65, pos := _, after := #[{ on := 0, ground := Ground.data }], guard := none }) rfl (fun K hK => ?_) AllReadyH.nil
          go_simp
          refine (HM.out _).mono ?_
          rintro e wy6 ⟨rfl, e6⟩
          have L6 := L1.step e6
          clear e6
          go_wp2_with fail
          refine hK.out _ _ trivial (fun hH6 => ?_)
          clear hK K
          (try simp only [Act.put, List.setIfInBounds_toArray, List.set_cons_zero, List.set_cons_succ])
          refine wpAnyH_take (i := 2) (oi := { dst := some 20, op := Op.field 65 (Operand.tmp 19) 0, type := 62, pos := _, after := #[{ on := 1, ground := Ground.data }], guard := none }) (v := ?tga5) rfl (by kernel_rfl) (by kernel_rfl) (by kernel_rfl) (fun _ _ _ h => h) (Or.inl ⟨by rfl, ?uga5⟩) (by assumption) ?rga5
          case uga5 => (intro w hSw; (try dsimp only at hSw); go_simp; (try with_reducible rfl))
          simp only [Act.put, List.setIfInBounds_toArray, List.set_cons_zero, List.set_cons_succ]
          refine wpAnyH_ready (rs := [6]) (by kernel_rfl) (by simp) ?_
          refine AllReadyH.cons (o := { dst := some 24, op := Op.call { callee := Callee.value (Operand.tmp 20), args := #[Operand.tmp 21, Operand.tmp 23], argTypes := #[9, 25] }, type := 33, pos := _, after := #[{ on := 2, ground := Ground.data }, { on := 3, ground := Ground.data }, { on := 5, ground := Ground.data }, { on := 1, ground := Ground.chain }], guard := none }) rfl (fun K hK => ?_) AllReadyH.nil
          go_simp
          refine (HB.out _ L6).mono ?_
          rintro e wy7 ⟨k', i', u', s', a', n', c', rfl, hz, e7⟩
          have HZ := Lib.hid hz
          clear hz
          go_wp2_with fail
          refine hK.out _ _ trivial (fun hH7 => ?_)
          clear hK K
          (try simp only [Act.put, List.setIfInBounds_toArray, List.set_cons_zero, List.set_cons_succ])
          refine wpAnyH_ready (rs := [7]) (by kernel_rfl) (by simp) ?_
          refine AllReadyH.cons (o := { dst := none, op := Op.store 33 (Operand.tmp 7) (Operand.tmp 24), type := 0, pos := _, after := #[{ on := 6, ground := Ground.data }, { on := 6, ground := Ground.chain }, { on := 0, ground := Ground.phase }, { on := 1, ground := Ground.phase }, { on := 2, ground := Ground.phase }, { on := 3, ground := Ground.phase }, { on := 4, ground := Ground.phase }, { on := 5, ground := Ground.phase }, { on := 6, ground := Ground.phase }], guard := none }) rfl (fun K hK => ?_) AllReadyH.nil
          have v8 := L6.v.step e7
          obtain ⟨c0, c1, c2, c3, c4, c5, c6, c7, c8, c9⟩ := v8.c10
          have zf := v8.f
          go_simp
          clear c0 c1 c2 c3 c4 c5 c6 c7 c8 c9 zf
          obtain ⟨W9, hW9⟩ : ∃ W9, W9 = ((((((((((wy7.setCell ⟨N, 0, none⟩ (.int .i64 0)).setCell ⟨N, 1, none⟩ (.int .i64 0)).setCell ⟨N, 2, none⟩ (.int .i64 0)).setCell ⟨N, 3, none⟩ (.int .i64 0)).setCell ⟨N, 4, none⟩ (.bool true)).setCell ⟨N, 5, none⟩ (.int .i64 k')).setCell ⟨N, 6, none⟩ (.int .i64 i')).setCell ⟨N, 7, none⟩ (.int .u64 u')).setCell ⟨N, 8, none⟩ (.string s')).setCell ⟨N, 9, none⟩ (.slice a' n' c')) := ⟨_, rfl⟩
          obtain ⟨k1, k2, k3, k4⟩ := set10 v8 (.int .i64 0) (.int .i64 0) (.int .i64 0) (.int .i64 0) (.bool true) (.int .i64 k') (.int .i64 i') (.int .u64 u') (.string s') (.slice a' n' c') hW9
          rw [← hW9]
          clear hW9
          refine hK.out _ _ trivial (fun hH8 => ?_)
          clear hK K
          (try simp only [Act.put, List.setIfInBounds_toArray, List.set_cons_zero, List.set_cons_succ])
          refine wpAnyH_done (by kernel_rfl) ?_ _
          have L9 := L6.set hN1 e7 HZ.out k1 k2 k3 k4
          obtain ⟨c0, c1, c2, c3, c4, c5, c6, c7, c8, c9⟩ := L9.v.c10
          clear k1 k2 k3 k4
          go_wp2_with fail
          exact ⟨⟨j + 1, m', t', k', i', u', s', a', n', c', by go_num, by omega, ho', HV'.out, fun h => absurd h (by omega), L9⟩, by simp [intOf]; omega⟩
      · rw [rows_bad L tp x _ t0 er pk pn her ht'] at hv
        have HV' := Lib.hid hv
        have HB : Hid (∀ (W : World) (_ : Lp w N m0 t0 k i u s a n c W), Calls Tryz.prog (mfn x) #[.string tp, .agg #[.int .i64 k, .int .i64 i, .int .u64 u, .string s, .slice a n c]] W fun e w' => ∃ k' i' u' s' a' n' c', e = .returned (.agg (rcs er 0 pk pn false k' i' u' s' a' n' c')) ∧ Rz (fun g => (g < W.heap.size ∧ g ≠ w.heap.size + 1 ∧ g ≠ N) ∨ (W.heap.size ≤ g ∧ g < w'.heap.size)) w' 1 [.int .i64 k', .int .i64 i', .int .u64 u', .string s', .slice a' n' c'] (lfT 0 0) ∧ Below W.heap.size W w') := fun W L => by
          have := HBD.out W L
          rw [ht'] at this
          exact this
        clear hv HBD ht'
        go_wp2_with fail
        have L1 := Lw.step (Below.refl wr.heap.size wr).drew
        refine wp_region_held_drew (S := fun _ => True) (by kernel_rfl) trivial (fun hHeld => ?_)
        clear Lw x0
        generalize wr.drew = w1 at *
        refine wpAnyH_take (i := 0) (oi := { dst := some 18, op := Op.move (Operand.tmp 9), type := 3, pos := _, after := #[], guard := none }) (v := ?tba6) rfl (by kernel_rfl) (by kernel_rfl) (by kernel_rfl) (fun _ _ _ h => h) (Or.inl ⟨by rfl, ?uba6⟩) (by assumption) ?rba6
        case uba6 => (intro w hSw; (try dsimp only at hSw); go_simp; (try with_reducible rfl))
        simp only [Act.put, List.setIfInBounds_toArray, List.set_cons_zero, List.set_cons_succ]
        refine wpAnyH_take (i := 3) (oi := { dst := some 21, op := Op.move (Operand.tmp 1), type := 9, pos := _, after := #[], guard := none }) (v := ?tba7) rfl (by kernel_rfl) (by kernel_rfl) (by kernel_rfl) (fun _ _ _ h => h) (Or.inl ⟨by rfl, ?uba7⟩) (by assumption) ?rba7
        case uba7 => (intro w hSw; (try dsimp only at hSw); go_simp; (try with_reducible rfl))
        simp only [Act.put, List.setIfInBounds_toArray, List.set_cons_zero, List.set_cons_succ]
        refine wpAnyH_take (i := 4) (oi := { dst := some 22, op := Op.fieldAddr 33 (Operand.tmp 7) 4, type := 0, pos := _, after := #[], guard := none }) (v := ?tba8) rfl (by kernel_rfl) (by kernel_rfl) (by kernel_rfl) (fun _ _ _ h => h) (Or.inl ⟨by rfl, ?uba8⟩) (by assumption) ?rba8
        case uba8 => (intro w hSw; (try dsimp only at hSw); go_simp; (try with_reducible rfl))
        simp only [Act.put, List.setIfInBounds_toArray, List.set_cons_zero, List.set_cons_succ]
        refine wpAnyH_ready (rs := [1, 5]) (by kernel_rfl) (by simp) ?_
        refine AllReadyH.cons (o := { dst := some 19, op := Op.call { callee := Callee.value (Operand.func 35), args := #[Operand.tmp 18], argTypes := #[3] }, type := 65, pos := _, after := #[{ on := 0, ground := Ground.data }], guard := none }) rfl (fun K hK => ?_) (AllReadyH.cons (o := { dst := some 23, op := Op.load 25 (Operand.tmp 22), type := 25, pos := _, after := #[{ on := 4, ground := Ground.data }], guard := none }) rfl (fun K hK => ?_) AllReadyH.nil)
        · go_simp
          refine (HM.out _).mono ?_
          rintro e wy9 ⟨rfl, e9⟩
          have L9 := L1.step e9
          clear e9
          go_wp2_with fail
          refine hK.out _ _ trivial (fun hH9 => ?_)
          clear hK K
          (try simp only [Act.put, List.setIfInBounds_toArray, List.set_cons_zero, List.set_cons_succ])
          refine wpAnyH_take (i := 2) (oi := { dst := some 20, op := Op.field 65 (Operand.tmp 19) 0, type := 62, pos := _, after := #[{ on := 1, ground := Ground.data }], guard := none }) (v := ?tba9) rfl (by kernel_rfl) (by kernel_rfl) (by kernel_rfl) (fun _ _ _ h => h) (Or.inl ⟨by rfl, ?uba9⟩) (by assumption) ?rba9
          case uba9 => (intro w hSw; (try dsimp only at hSw); go_simp; (try with_reducible rfl))
          simp only [Act.put, List.setIfInBounds_toArray, List.set_cons_zero, List.set_cons_succ]
          refine wpAnyH_ready (rs := [5]) (by kernel_rfl) (by simp) ?_
          refine AllReadyH.cons (o := { dst := some 23, op := Op.load 25 (Operand.tmp 22), type := 25, pos := _, after := #[{ on := 4, ground := Ground.data }], guard := none }) rfl (fun K hK => ?_) AllReadyH.nil
          obtain ⟨c0, c1, c2, c3, c4, c5, c6, c7, c8, c9⟩ := L9.v.c10
          go_simp
          clear c0 c1 c2 c3 c4 c5 c6 c7 c8 c9
          refine hK.out _ _ trivial (fun hH10 => ?_)
          clear hK K
          (try simp only [Act.put, List.setIfInBounds_toArray, List.set_cons_zero, List.set_cons_succ])
          refine wpAnyH_ready (rs := [6]) (by kernel_rfl) (by simp) ?_
          refine AllReadyH.cons (o := { dst := some 24, op := Op.call { callee := Callee.value (Operand.tmp 20), args := #[Operand.tmp 21, Operand.tmp 23], argTypes := #[9, 25] }, type := 33, pos := _, after := #[{ on := 2, ground := Ground.data }, { on := 3, ground := Ground.data }, { on := 5, ground := Ground.data }, { on := 1, ground := Ground.chain }], guard := none }) rfl (fun K hK => ?_) AllReadyH.nil
          go_simp
          refine (HB.out _ L9).mono ?_
          rintro e wy11 ⟨k', i', u', s', a', n', c', rfl, hz, e11⟩
          have HZ := Lib.hid hz
          clear hz
          go_wp2_with fail
          refine hK.out _ _ trivial (fun hH11 => ?_)
          clear hK K
          (try simp only [Act.put, List.setIfInBounds_toArray, List.set_cons_zero, List.set_cons_succ])
          refine wpAnyH_ready (rs := [7]) (by kernel_rfl) (by simp) ?_
          refine AllReadyH.cons (o := { dst := none, op := Op.store 33 (Operand.tmp 7) (Operand.tmp 24), type := 0, pos := _, after := #[{ on := 6, ground := Ground.data }, { on := 6, ground := Ground.chain }, { on := 0, ground := Ground.phase }, { on := 1, ground := Ground.phase }, { on := 2, ground := Ground.phase }, { on := 3, ground := Ground.phase }, { on := 4, ground := Ground.phase }, { on := 5, ground := Ground.phase }, { on := 6, ground := Ground.phase }], guard := none }) rfl (fun K hK => ?_) AllReadyH.nil
          have v12 := L9.v.step e11
          obtain ⟨c0, c1, c2, c3, c4, c5, c6, c7, c8, c9⟩ := v12.c10
          have zf := v12.f
          go_simp
          clear c0 c1 c2 c3 c4 c5 c6 c7 c8 c9 zf
          obtain ⟨W9, hW9⟩ : ∃ W9, W9 = ((((((((((wy11.setCell ⟨N, 0, none⟩ (.int .i64 er)).setCell ⟨N, 1, none⟩ (.int .i64 0)).setCell ⟨N, 2, none⟩ (.int .i64 pk)).setCell ⟨N, 3, none⟩ (.int .i64 pn)).setCell ⟨N, 4, none⟩ (.bool false)).setCell ⟨N, 5, none⟩ (.int .i64 k')).setCell ⟨N, 6, none⟩ (.int .i64 i')).setCell ⟨N, 7, none⟩ (.int .u64 u')).setCell ⟨N, 8, none⟩ (.string s')).setCell ⟨N, 9, none⟩ (.slice a' n' c')) := ⟨_, rfl⟩
          obtain ⟨k1, k2, k3, k4⟩ := set10 v12 (.int .i64 er) (.int .i64 0) (.int .i64 pk) (.int .i64 pn) (.bool false) (.int .i64 k') (.int .i64 i') (.int .u64 u') (.string s') (.slice a' n' c') hW9
          rw [← hW9]
          clear hW9
          refine hK.out _ _ trivial (fun hH12 => ?_)
          clear hK K
          (try simp only [Act.put, List.setIfInBounds_toArray, List.set_cons_zero, List.set_cons_succ])
          refine wpAnyH_done (by kernel_rfl) ?_ _
          have r9 : Bk W9 (w.heap.size + 1) (rErr 0 0 0 0) 33 := (k3 _ (by omega)).trans ((L9.step e11).r)
          have B9 : Below w.heap.size w W9 := (L9.step e11).b.trans (k4.mono (by omega))
          obtain ⟨c0, c1, c2, c3, c4, c5, c6, c7, c8, c9⟩ := k1.c10
          obtain ⟨d0, d1, d2, d3, d4, d5, d6, d7, d8, d9⟩ := r9.c10
          have zd := r9.f
          clear k2 k3 k4
          go_wp2_with fail
          obtain ⟨j1, j2, j3, j4⟩ := set10 r9 (.int .i64 er) (.int .i64 0) (.int .i64 pk) (.int .i64 pn) (.bool false) (.int .i64 k') (.int .i64 i') (.int .u64 u') (.string s') (.slice a' n' c') rfl
          have KF := B9.trans (j4.mono (by omega))
          obtain ⟨q0, q1, q2, q3, q4, q5, q6, q7, q8, q9⟩ := j1.c10
          refine bodyPost_ret (v := .agg (rcs er 0 pk pn false k' i' u' s' a' n' c')) ?_ rfl (bad_end HV'.out (Rz.rep _ _ _ HZ.out) KF)
          simp [results, Tryz.results17, go_sem, q0, q1, q2, q3, q4, q5, q6, q7, q8, q9]
        · obtain ⟨c0, c1, c2, c3, c4, c5, c6, c7, c8, c9⟩ := L1.v.c10
          go_simp
          clear c0 c1 c2 c3 c4 c5 c6 c7 c8 c9
          refine hK.out _ _ trivial (fun hH13 => ?_)
          clear hK K
          (try simp only [Act.put, List.setIfInBounds_toArray, List.set_cons_zero, List.set_cons_succ])
          refine wpAnyH_ready (rs := [1]) (by kernel_rfl) (by simp) ?_
          refine AllReadyH.cons (o := { dst := some 19, op := Op.call { callee := Callee.value (Operand.func 35), args := #[Operand.tmp 18], argTypes := #[3] }, type := 65, pos := _, after := #[{ on := 0, ground := Ground.data }], guard := none }) rfl (fun K hK => ?_) AllReadyH.nil
          go_simp
          refine (HM.out _).mono ?_
          rintro e wy14 ⟨rfl, e14⟩
          have L14 := L1.step e14
          clear e14
          go_wp2_with fail
          refine hK.out _ _ trivial (fun hH14 => ?_)
          clear hK K
          (try simp only [Act.put, List.setIfInBounds_toArray, List.set_cons_zero, List.set_cons_succ])
          refine wpAnyH_take (i := 2) (oi := { dst := some 20, op := Op.field 65 (Operand.tmp 19) 0, type := 62, pos := _, after := #[{ on := 1, ground := Ground.data }], guard := none }) (v := ?tba10) rfl (by kernel_rfl) (by kernel_rfl) (by kernel_rfl) (fun _ _ _ h => h) (Or.inl ⟨by rfl, ?uba10⟩) (by assumption) ?rba10
          case uba10 => (intro w hSw; (try dsimp only at hSw); go_simp; (try with_reducible rfl))
          simp only [Act.put, List.setIfInBounds_toArray, List.set_cons_zero, List.set_cons_succ]
          refine wpAnyH_ready (rs := [6]) (by kernel_rfl) (by simp) ?_
          refine AllReadyH.cons (o := { dst := some 24, op := Op.call { callee := Callee.value (Operand.tmp 20), args := #[Operand.tmp 21, Operand.tmp 23], argTypes := #[9, 25] }, type := 33, pos := _, after := #[{ on := 2, ground := Ground.data }, { on := 3, ground := Ground.data }, { on := 5, ground := Ground.data }, { on := 1, ground := Ground.chain }], guard := none }) rfl (fun K hK => ?_) AllReadyH.nil
          go_simp
          refine (HB.out _ L14).mono ?_
          rintro e wy15 ⟨k', i', u', s', a', n', c', rfl, hz, e15⟩
          have HZ := Lib.hid hz
          clear hz
          go_wp2_with fail
          refine hK.out _ _ trivial (fun hH15 => ?_)
          clear hK K
          (try simp only [Act.put, List.setIfInBounds_toArray, List.set_cons_zero, List.set_cons_succ])
          refine wpAnyH_ready (rs := [7]) (by kernel_rfl) (by simp) ?_
          refine AllReadyH.cons (o := { dst := none, op := Op.store 33 (Operand.tmp 7) (Operand.tmp 24), type := 0, pos := _, after := #[{ on := 6, ground := Ground.data }, { on := 6, ground := Ground.chain }, { on := 0, ground := Ground.phase }, { on := 1, ground := Ground.phase }, { on := 2, ground := Ground.phase }, { on := 3, ground := Ground.phase }, { on := 4, ground := Ground.phase }, { on := 5, ground := Ground.phase }, { on := 6, ground := Ground.phase }], guard := none }) rfl (fun K hK => ?_) AllReadyH.nil
          have v16 := L14.v.step e15
          obtain ⟨c0, c1, c2, c3, c4, c5, c6, c7, c8, c9⟩ := v16.c10
          have zf := v16.f
          go_simp
          clear c0 c1 c2 c3 c4 c5 c6 c7 c8 c9 zf
          obtain ⟨W9, hW9⟩ : ∃ W9, W9 = ((((((((((wy15.setCell ⟨N, 0, none⟩ (.int .i64 er)).setCell ⟨N, 1, none⟩ (.int .i64 0)).setCell ⟨N, 2, none⟩ (.int .i64 pk)).setCell ⟨N, 3, none⟩ (.int .i64 pn)).setCell ⟨N, 4, none⟩ (.bool false)).setCell ⟨N, 5, none⟩ (.int .i64 k')).setCell ⟨N, 6, none⟩ (.int .i64 i')).setCell ⟨N, 7, none⟩ (.int .u64 u')).setCell ⟨N, 8, none⟩ (.string s')).setCell ⟨N, 9, none⟩ (.slice a' n' c')) := ⟨_, rfl⟩
          obtain ⟨k1, k2, k3, k4⟩ := set10 v16 (.int .i64 er) (.int .i64 0) (.int .i64 pk) (.int .i64 pn) (.bool false) (.int .i64 k') (.int .i64 i') (.int .u64 u') (.string s') (.slice a' n' c') hW9
          rw [← hW9]
          clear hW9
          refine hK.out _ _ trivial (fun hH16 => ?_)
          clear hK K
          (try simp only [Act.put, List.setIfInBounds_toArray, List.set_cons_zero, List.set_cons_succ])
          refine wpAnyH_done (by kernel_rfl) ?_ _
          have r9 : Bk W9 (w.heap.size + 1) (rErr 0 0 0 0) 33 := (k3 _ (by omega)).trans ((L14.step e15).r)
          have B9 : Below w.heap.size w W9 := (L14.step e15).b.trans (k4.mono (by omega))
          obtain ⟨c0, c1, c2, c3, c4, c5, c6, c7, c8, c9⟩ := k1.c10
          obtain ⟨d0, d1, d2, d3, d4, d5, d6, d7, d8, d9⟩ := r9.c10
          have zd := r9.f
          clear k2 k3 k4
          go_wp2_with fail
          obtain ⟨j1, j2, j3, j4⟩ := set10 r9 (.int .i64 er) (.int .i64 0) (.int .i64 pk) (.int .i64 pn) (.bool false) (.int .i64 k') (.int .i64 i') (.int .u64 u') (.string s') (.slice a' n' c') rfl
          have KF := B9.trans (j4.mono (by omega))
          obtain ⟨q0, q1, q2, q3, q4, q5, q6, q7, q8, q9⟩ := j1.c10
          refine bodyPost_ret (v := .agg (rcs er 0 pk pn false k' i' u' s' a' n' c')) ?_ rfl (bad_end HV'.out (Rz.rep _ _ _ HZ.out) KF)
          simp [results, Tryz.results17, go_sem, q0, q1, q2, q3, q4, q5, q6, q7, q8, q9]
    · have hje : j = ops.length := by omega
      have hv := HV.out
      rw [hje, List.drop_length] at hv
      have hv' : good t0 = RR := hv
      subst hv'
      clear hv HV HI
      obtain ⟨c0, c1, c2, c3, c4, c5, c6, c7, c8, c9⟩ := Lw.v.c10
      go_wp2_with fail
      refine (Dt.vcopy _ t0 _ _ _ _ _ wr (Rz.rep _ _ _ Lw.z) (vB_to ho.v).2.1).mono ?_
      rintro e w2 ⟨k', i', u', s', a', n', c', rfl, rf, b2⟩
      have RF := Lib.hid rf
      have v2 := Lw.v.step b2
      have r2 := Lw.r.step b2
      have B2 := Lw.b.trans (b2.mono Lw.b.size)
      have lN := Lw.v.lt
      clear rf c0 c1 c2 c3 c4 c5 c6 c7 c8 c9
      obtain ⟨c0, c1, c2, c3, c4, c5, c6, c7, c8, c9⟩ := v2.c10
      have zf := v2.f
      obtain ⟨d0, d1, d2, d3, d4, d5, d6, d7, d8, d9⟩ := r2.c10
      have zd := r2.f
      go_wp2_with fail
      obtain ⟨W8, hW8⟩ : ∃ W8, W8 = (((((w2.setCell ⟨N, 5, none⟩ (.int .i64 k')).setCell ⟨N, 6, none⟩ (.int .i64 i')).setCell ⟨N, 7, none⟩ (.int .u64 u')).setCell ⟨N, 8, none⟩ (.string s')).setCell ⟨N, 9, none⟩ (.slice a' n' c')) := ⟨_, rfl⟩
      obtain ⟨k1, k2, k3, k4⟩ := set59 v2 (.int .i64 k') (.int .i64 i') (.int .u64 u') (.string s') (.slice a' n' c') hW8
      have r8 : Bk W8 (w.heap.size + 1) (rErr 0 0 0 0) 33 := (k3 _ (by omega)).trans r2
      obtain ⟨j1, j2, j3, j4⟩ := set10 r8 (.int .i64 0) (.int .i64 0) (.int .i64 0) (.int .i64 0) (.bool true) (.int .i64 k') (.int .i64 i') (.int .u64 u') (.string s') (.slice a' n' c') rfl
      have KF := (B2.trans (k4.mono (by omega))).trans (j4.mono (by omega))
      rw [← hW8]
      clear hW8
      obtain ⟨q0, q1, q2, q3, q4, q5, q6, q7, q8, q9⟩ := j1.c10
      refine bodyPost_ret (v := .agg (rcs 0 0 0 0 true k' i' u' s' a' n' c')) ?_ rfl ⟨k', i', u', s', a', n', c', rfl, ?hz, KF⟩
      case hz =>
        exact Dt.Rf.to (fun g hg => by
          have hg1 := hg.1
          have hg2 := hg.2
          have := Lw.b.size
          exact ⟨⟨by omega, by omega⟩, (j3 g (by omega)).trans (k3 g (by omega))⟩) _ _ _ RF.out
      simp [results, Tryz.results17, go_sem, q0, q1, q2, q3, q4, q5, q6, q7, q8, q9]

end Go.Proofs.YtajagjcfmaggiaaGreatDoor
