/- What the laws of this layer share: rows of numbers held against each other, what is fit, what they ask of the package; the conditions that each theorem names. -/
import Derived.Test.YtkgbpildikjoiaaGreatDoorVe
import Derived.Test.YtkgbpildikjoiaaGreatDoorDRv
import Derived.Test.YtkgbpildikjoiaaGreatDoorVk
namespace Go.Proofs.YtkgbpildikjoiaaGreatDoor
open Go.RowKit Tp

/-- A slice of numbers. -/
def Ri (w : World) (sv : Value) (l : List Int) : Prop := ∃ ad cap, sv = .slice ad l.length cap ∧ (l = [] ∨ ∃ g o, ad = some ⟨g, o, none⟩ ∧ ∀ (j : Nat) i, l[j]? = some i → w.cell? ⟨g, o + j, none⟩ = some (.int .i64 i))
theorem Ri.below {w w' : World} {sv : Value} {l : List Int} (h : Ri w sv l) (hb : Below w.heap.size w w') : Ri w' sv l := by
  obtain ⟨ad, cap, e, h⟩ := h
  refine ⟨ad, cap, e, ?_⟩
  rcases h with h | ⟨g, o, e2, h⟩
  · exact .inl h
  · exact .inr ⟨g, o, e2, fun j i hj => by
      have h9 := h j i hj
      exact (hb.cell (p := ⟨g, _, none⟩) (World.block_lt_of_cell? w _ h9)).trans h9⟩
theorem Ri.at {w : World} {sv : Value} {l : List Int} (h : Ri w sv l) (hl : 0 < l.length) : ∃ g o cap, sv = .slice (some ⟨g, o, none⟩) l.length cap ∧ ∀ (j : Nat) i, l[j]? = some i → w.cell? ⟨g, o + j, none⟩ = some (.int .i64 i) := by
  obtain ⟨ad, cap, e, h⟩ := h
  rcases h with h | ⟨g, o, e2, h⟩
  · subst h; simp at hl
  · subst e2; exact ⟨g, o, cap, e, h⟩
theorem own_ri {w : World} {base : Nat} {e : TypeId} {v : Value} {l : List Int} (h : w.ownsRow base e 1 v l.length (iv l)) : Ri w v l := by
  cases hl : l with
  | nil => subst hl; obtain ⟨ad, c, rfl⟩ := row_form h; exact ⟨ad, c, rfl, .inl rfl⟩
  | cons x r =>
    rw [← hl]
    obtain ⟨g, c, e, -, -, hc⟩ := own_at h (by rw [hl]; simp)
    refine ⟨_, c, e, .inr ⟨g, 0, rfl, fun j i hj => ?_⟩⟩
    rw [Nat.zero_add]
    exact hc w rfl j _ (by simp [hj])
theorem own_rin {w : World} {base : Nat} {e : TypeId} {v : Value} {l : List Nat} (h : w.ownsRow base e 1 v l.length (nv l)) : Ri w v (l.map fun (i : Nat) => (i : Int)) := by
  refine own_ri (base := base) (e := e) ?_
  simpa [Function.comp_def] using h

set_option maxRecDepth 100000 in
set_option maxHeartbeats 2000000 in
theorem same_any (a b : Value) (A B : List Int) (w : World) (hA : Ri w a A) (hB : Ri w b B) (la : A.length ≤ 100000) (lb : B.length ≤ 100000) :
    Calls Tryz.prog 11 #[a, b] w fun e w' => e = .returned (.bool (decide (A = B))) ∧ Below w.heap.size w w' := by
  by_cases hl : A.length = B.length
  · by_cases h0 : A.length = 0
    · obtain rfl : A = [] := List.eq_nil_of_length_eq_zero h0
      obtain rfl : B = [] := List.eq_nil_of_length_eq_zero (by omega)
      obtain ⟨aa, ca, rfl, -⟩ := hA
      obtain ⟨ab, cb, rfl, -⟩ := hB
      clear hl h0 la lb
      go_enter Tryz.func11, Tryz.ntmps11
      go_wp2
      go_loopg [5, 13] 1 (fun g s5 s13 wx => s13 = .int .i64 0 ∧ wx = w)
      case atStart => exact ⟨rfl, rfl⟩
      case round =>
        obtain ⟨rfl, rfl⟩ := hrel
        go_wp2
        go_ret
        exact ⟨rfl, Below.refl _ _⟩
    · obtain ⟨ga, oa, ca, ea, hA2⟩ := hA.at (by omega)
      subst ea
      obtain ⟨gb, ob, cb, eb, hB2⟩ := hB.at (by omega)
      subst eb
      have HA := Lib.hid hA2
      have HB := Lib.hid hB2
      have hne : ((A.length : Int) != (B.length : Int)) = false := by simp [hl]
      have HL := Lib.hid hl
      clear hA hB hA2 hB2 h0
      clear hl
      go_enter Tryz.func11, Tryz.ntmps11
      go_wp2
      go_loopg [5, 13] A.length (fun g s5 s13 wx => ∃ j : Nat, j + g = A.length ∧ s13 = .int .i64 j ∧ A.take j = B.take j ∧ Below w.heap.size w wx)
      case atStart => exact ⟨0, by omega, rfl, by simp, Below.refl _ _⟩
      case round =>
        obtain ⟨j, hj, rfl, ht, hb⟩ := hrel
        have HTK := Lib.hid ht
        clear ht
        cases gk with
        | zero =>
          obtain rfl : j = A.length := by omega
          go_wp2
          go_ret
          refine ⟨ret_b ?_, hb⟩
          have h1 := HTK.out
          rw [List.take_length, HL.out, List.take_length] at h1
          exact (decide_eq_true h1).symm
        | succ g =>
          have hja : j < A.length := by omega
          have hjb : j < B.length := by have := HL.out; omega
          obtain ⟨x, hx⟩ : ∃ x, A[j]? = some x := ⟨_, List.getElem?_eq_getElem hja⟩
          obtain ⟨y, hy⟩ : ∃ y, B[j]? = some y := ⟨_, List.getElem?_eq_getElem hjb⟩
          have cx := HA.out j x hx
          have cy := HB.out j y hy
          have cx' := (hb.cell (p := ⟨ga, _, none⟩) (World.block_lt_of_cell? w _ cx)).trans cx
          have cy' := (hb.cell (p := ⟨gb, _, none⟩) (World.block_lt_of_cell? w _ cy)).trans cy
          clear cx cy
          have hja' : (j : Int) < (A.length : Int) := by omega
          have hjb' : (j : Int) < (B.length : Int) := by omega
          have hyes : x = y → A.take (j + 1) = B.take (j + 1) := fun e => by rw [List.take_add_one, List.take_add_one, HTK.out, hx, hy, e]
          have hno : x ≠ y → decide (A = B) = false := fun e => decide_eq_false fun e2 => e (by subst e2; rw [hx] at hy; exact Option.some.inj hy)
          have HY := Lib.hid hyes
          have HN := Lib.hid hno
          clear hx hy hyes hno
          cases hxy : (x != y) with
          | true =>
            go_wp2
            go_quiet (fail)
            go_wp2
            go_ret
            refine ⟨ret_b (HN.out (by simpa using hxy)).symm, ?_⟩
            first | exact hb | exact below_drewN hb _
          | false =>
            go_wp2
            go_quiet (fail)
            go_wp2
            go_roundg g
            case measure => omega
            case rel => exact ⟨j + 1, by omega, by simp, HY.out (by simpa using hxy), by first | exact hb | exact below_drewN hb _⟩
  · obtain ⟨aa, ca, rfl, -⟩ := hA
    obtain ⟨ab, cb, rfl, -⟩ := hB
    have hne : ((A.length : Int) != (B.length : Int)) = true := by simp; omega
    have hd : decide (A = B) = false := decide_eq_false fun e => hl (by rw [e])
    rw [hd]
    clear hl hd
    go_enter Tryz.func11, Tryz.ntmps11
    go_wp2
    go_ret
    exact ⟨rfl, Below.refl _ _⟩

/-- What this layer's laws ask of the routes and the message: are they fit? -/
def fitL (L : List Ro) (tp : Bs) (v : Bool) : Bool := decide (L.length ≤ 400) && L.all Ro.ok && isName tp && v

set_option maxRecDepth 100000 in
set_option maxHeartbeats 2000000 in
theorem lawfit_any (L : List Ro) (ad : Option Addr) (cap : Nat) (m : Mg) (n : Nat) (d : Dt.Tr n) (w : World) (h : Rs w ad L) (hd : Dt.Rep w n [.int .i64 m.k, .int .i64 m.i, .int .u64 m.u, .string m.s, .slice m.a m.l m.c] d) (hmt : m.tp.size ≤ 9223372036854775807) (hT : Tabs w) :
    Calls Tryz.prog 7 #[.slice ad L.length cap, .agg m.cs] w fun e w' => e = .returned (.bool (fitL L (tl m.tp) (Dt.vB n d))) ∧ Below w.heap.size w w' := by
  have b0 := below1 w (.cells m.cs 28)
  have n0 := Bk.new w m.cs 28
  obtain ⟨w0, hw0⟩ : ∃ w0, w0 = w.alloc (.cells m.cs 28) := ⟨_, rfl⟩
  rw [← hw0] at b0 n0
  have HW := Lib.hid hw0.symm
  have HF : Hid (∀ wx, L.length ≤ 400 → Below w0.heap.size w0 wx → Calls Tryz.prog 19 #[.slice ad L.length cap] wx fun e w' => e = .returned (.bool (L.all Ro.ok)) ∧ Below w0.heap.size w0 w') := fun wx hl hx => (rfit_any L ad cap wx ((h.below b0).below hx) hl ((hT.below b0).below hx)).mono fun e w' ⟨p, q⟩ => ⟨p, hx.trans (q.mono hx.size)⟩
  have HN : Hid (∀ wx, Below w0.heap.size w0 wx → Calls Tryz.prog 20 #[.string m.tp] wx fun e w' => e = .returned (.bool (isName (tl m.tp))) ∧ Below w0.heap.size w0 w') := fun wx hx => (rname_any m.tp wx hmt ((hT.below b0).below hx)).mono fun e w' ⟨p, q⟩ => ⟨p, hx.trans (q.mono hx.size)⟩
  have HV : Hid (∀ wx, Below w0.heap.size w0 wx → Calls Tryz.prog 16 #[.agg #[.int .i64 m.k, .int .i64 m.i, .int .u64 m.u, .string m.s, .slice m.a m.l m.c]] wx fun e w' => e = .returned (.bool (Dt.vB n d)) ∧ Below w0.heap.size w0 w') := fun wx hx => (Dt.refValid n d _ _ _ _ _ wx (Dt.Rep.below hx n _ _ (Dt.Rep.below b0 n _ _ hd))).mono fun e w' ⟨p, q⟩ => ⟨p, hx.trans (q.mono hx.size)⟩
  have BM : Hid (∀ wx, Below w0.heap.size w0 wx → Bk wx w.heap.size m.cs 28) := fun wx hx => n0.below hx
  have HB : Hid (∀ wx, Below w0.heap.size w0 wx → Below w.heap.size w wx) := fun wx hx => b0.trans (hx.mono b0.size)
  unfold fitL
  generalize Dt.vB n d = v at HV ⊢
  generalize isName (tl m.tp) = nm at HN ⊢
  generalize L.all Ro.ok = ok at HF ⊢
  clear h hd hmt hT hw0 n0 b0
  by_cases hl : L.length ≤ 400
  · have hl' : decide ((L.length : Int) ≤ 400) = true := decide_eq_true (by omega)
    have hd' : decide (L.length ≤ 400) = true := decide_eq_true hl
    rw [hd']
    have HLL := Lib.hid hl
    clear hd' hl
    have hl2 : (L.length : Int) ≤ 400 := of_decide_eq_true hl'
    cases ok with
    | false =>
      go_enter Tryz.func7, Tryz.ntmps7
      go_wp2_with (rw [HW.out])
      refine (HF.out _ HLL.out (Below.refl _ _)).mono ?_
      rintro e w1 ⟨rfl, b1⟩
      go_wp2_with fail
      go_ret
      exact ⟨rfl, HB.out _ b1⟩
    | true =>
      cases nm with
      | false =>
        go_enter Tryz.func7, Tryz.ntmps7
        go_wp2_with (rw [HW.out])
        refine (HF.out _ HLL.out (Below.refl _ _)).mono ?_
        rintro e w1 ⟨rfl, b1⟩
        obtain ⟨-, m1, -⟩ := (BM.out _ b1).c13
        go_wp2_with fail
        refine (HN.out _ b1).mono ?_
        rintro e w2 ⟨rfl, b2⟩
        clear m1
        go_wp2_with fail
        go_ret
        exact ⟨rfl, HB.out _ b2⟩
      | true =>
        go_enter Tryz.func7, Tryz.ntmps7
        go_wp2_with (rw [HW.out])
        refine (HF.out _ HLL.out (Below.refl _ _)).mono ?_
        rintro e w1 ⟨rfl, b1⟩
        obtain ⟨-, m1, -⟩ := (BM.out _ b1).c13
        go_wp2_with fail
        refine (HN.out _ b1).mono ?_
        rintro e w2 ⟨rfl, b2⟩
        clear m1
        obtain ⟨-, -, m2, m3, m4, m5, m6, -⟩ := (BM.out _ b2).c13
        go_wp2_with fail
        refine (HV.out _ b2).mono ?_
        rintro e w3 ⟨rfl, b3⟩
        clear m2 m3 m4 m5 m6
        cases v <;> (go_wp2_with fail; go_ret; exact ⟨rfl, HB.out _ b3⟩)
  · have hl' : decide ((L.length : Int) ≤ 400) = false := decide_eq_false (by omega)
    have hd' : decide (L.length ≤ 400) = false := decide_eq_false hl
    rw [hd']
    have hl2 : ¬ (L.length : Int) ≤ 400 := by omega
    clear hl
    go_enter Tryz.func7, Tryz.ntmps7
    go_wp2_with (rw [HW.out])
    go_ret
    exact ⟨rfl, HB.out _ (Below.refl _ _)⟩

/-- What the laws ask of the package: its answers, of fit routes, up to so many, and a message. -/
def KFind (N : Nat) : Prop := ∀ (L : List Ro) (ad : Option Addr) (cap : Nat) (m : Mg) (w : World), Rs w ad L → L.length ≤ N → (∀ x ∈ L, x.ok = true) → (0 ≤ m.k ∧ m.k ≤ 13) → isName (tl m.tp) = true → Tabs w →
  Calls Tryz.prog 9 #[.slice ad L.length cap, .agg m.cs] w fun e w' => ∃ sv, e = .returned (.agg #[sv, .bool (tkE (tl m.tp) m.k L)]) ∧ Ri w' sv ((tkR (tl m.tp) m.k L).map fun (i : Nat) => (i : Int)) ∧ Below w.heap.size w w'
def KHan : Prop := ∀ (L : List Ro) (ad : Option Addr) (cap : Nat) (m : Mg) (w : World), Rs w ad L → L.length ≤ 400 → (∀ x ∈ L, x.ok = true) → (0 ≤ m.k ∧ m.k ≤ 13) → isName (tl m.tp) = true → Tabs w →
  Calls Tryz.prog 12 #[.slice ad L.length cap, .agg m.cs] w fun e w' => ∃ sv, e = .returned sv ∧ Ri w' sv (hdl (tl m.tp) m.k L) ∧ Below w.heap.size w w'
def KExp : Prop := ∀ (L : List Ro) (ad : Option Addr) (cap : Nat) (m : Mg) (w : World), Rs w ad L → L.length ≤ 400 → (∀ x ∈ L, x.ok = true) → (0 ≤ m.k ∧ m.k ≤ 13) → isName (tl m.tp) = true → Tabs w → P10 w →
  Calls Tryz.prog 14 #[.slice ad L.length cap, .agg m.cs] w fun e w' => e = .returned (.string (exf (tl m.tp) m.k (tkE (tl m.tp) m.k L) L L.length)) ∧ Below w.heap.size w w'

end Go.Proofs.YtkgbpildikjoiaaGreatDoor
