/- The document's Zero, Typed and Fit, walked: conditions that each theorem names. -/
import Derived.Test.YtkgbpildikjoiaaGreatDoorVa
import Derived.Test.YtkgbpildikjoiaaGreatDoorMat
import Derived.Test.YtkgbpildikjoiaaGreatDoorRb
namespace Go.Proofs.YtkgbpildikjoiaaGreatDoor
open Go.RowKit Tp

set_option maxRecDepth 100000 in
set_option maxHeartbeats 2000000 in
theorem rzero_any (o a : Int) (wd : Option Addr) (wl wc : Nat) (w : World) :
    Calls Tryz.prog 32 #[.agg #[.int .i64 o, .int .i64 a, .slice wd wl wc]] w fun e w' => e = .returned (.bool (o == 0 && a == 0 && wl == 0)) ∧ Below w.heap.size w w' := by
  have b0 := below1 w (.cells #[.int .i64 o, .int .i64 a, .slice wd wl wc] 43)
  have hl : ((wl : Int) == 0) = (wl == 0) := by
    cases wl with
    | zero => rfl
    | succ n => rw [show ((n + 1 : Nat) == 0) = false from rfl]; exact beq_false_of_ne (by omega)
  cases h1 : (o == 0) with
  | false =>
    go_enter Tryz.func32, Tryz.ntmps32
    go_wp2_with fail
    go_ret
    exact ⟨rfl, b0⟩
  | true =>
    cases h2 : (a == 0) with
    | false =>
      go_enter Tryz.func32, Tryz.ntmps32
      go_wp2_with fail
      go_ret
      exact ⟨rfl, b0⟩
    | true =>
      cases h3 : (wl == 0) with
      | false =>
        rw [h3] at hl
        go_enter Tryz.func32, Tryz.ntmps32
        go_wp2_with fail
        go_ret
        exact ⟨rfl, b0⟩
      | true =>
        rw [h3] at hl
        go_enter Tryz.func32, Tryz.ntmps32
        go_wp2_with fail
        go_ret
        exact ⟨rfl, b0⟩

/-- What a walk keeps: the memory that was, and a block of its own. -/
structure Sb (w : World) (N : Nat) (cs : Array Value) (T : TypeId) (wx : World) : Prop where
  below : Below w.heap.size w wx
  blk : Bk wx N cs T
theorem Sb.step {w wx wy : World} {N : Nat} {cs : Array Value} {T : TypeId} (h : Sb w N cs T wx) (hb : Below wx.heap.size wx wy) : Sb w N cs T wy := ⟨h.below.trans (hb.mono h.below.size), h.blk.below hb⟩

set_option maxRecDepth 100000 in
set_option maxHeartbeats 2000000 in
theorem rtyped_any (x : Ro) (k i b : Int) (s : ByteArray) (ad : Option Addr) (len cap : Nat) (w : World) (h : RepW w x.n x.wv x.t) (hg : x.z = true ∨ wgt x.n x.t = true) (k0 : 0 ≤ k) (k1 : k ≤ 13) :
    Calls Tryz.prog 18 #[x.ca, .agg #[.int .i64 k, .int .i64 i, .int .u64 b, .string s, .slice ad len cap]] w fun e w' => e = .returned (.bool (x.ty k)) ∧ Below w.heap.size w w' := by
  obtain ⟨f, n, t, o, a, wd, wl, wc, hh, e⟩ := x
  have h' : RepW w n [.int .i64 o, .int .i64 a, .slice wd wl wc] t := h
  have b1 := below1 w (.cells #[.string f, .int .i64 o, .int .i64 a, .slice wd wl wc, .int .i64 hh, .bool e] 45)
  have n1 := Bk.new w #[.string f, .int .i64 o, .int .i64 a, .slice wd wl wc, .int .i64 hh, .bool e] 45
  obtain ⟨w1, hw1⟩ : ∃ w1, w1 = w.alloc (.cells #[.string f, .int .i64 o, .int .i64 a, .slice wd wl wc, .int .i64 hh, .bool e] 45) := ⟨_, rfl⟩
  have b2 := below1 w1 (.cells #[.int .i64 k, .int .i64 i, .int .u64 b, .string s, .slice ad len cap] 26)
  have n2 := Bk.new w1 #[.int .i64 k, .int .i64 i, .int .u64 b, .string s, .slice ad len cap] 26
  rw [← hw1] at b1 n1
  have z1 : w1.heap.size = w.heap.size + 1 := by rw [hw1]; simp
  have n1' := n1.below b2
  obtain ⟨w2, hw2⟩ : ∃ w2, w2 = w1.alloc (.cells #[.int .i64 k, .int .i64 i, .int .u64 b, .string s, .slice ad len cap] 26) := ⟨_, rfl⟩
  rw [← hw2] at b2 n2 n1'
  have B := b1.trans (b2.mono (by omega))
  rw [z1] at n2
  have HV := Lib.hid hw1.symm
  have HW := Lib.hid hw2.symm
  have HZ : Hid (∀ wx, Below w2.heap.size w2 wx → Calls Tryz.prog 32 #[.agg #[.int .i64 o, .int .i64 a, .slice wd wl wc]] wx fun e w' => e = .returned (.bool (o == 0 && a == 0 && wl == 0)) ∧ Below w2.heap.size w2 w') := fun wx hx => (rzero_any o a wd wl wc wx).mono fun e w' ⟨p, q⟩ => ⟨p, hx.trans (q.mono hx.size)⟩
  have HM : Hid (∀ wx, wgt n t = true → Below w2.heap.size w2 wx → Calls Tryz.prog 33 #[.agg #[.int .i64 o, .int .i64 a, .slice wd wl wc], .agg #[.int .i64 k, .int .i64 i, .int .u64 b, .string s, .slice ad len cap]] wx fun e w' => e = .returned (.bool (evk n t k)) ∧ Below w2.heap.size w2 w') := fun wx hg hx => by
    obtain ⟨q, rfl⟩ := Int.eq_ofNat_of_zero_le k0
    exact (matchR n t _ _ _ q i b s ad len cap wx (RepW.below hx n _ _ (RepW.below B n _ _ h')) hg (by omega)).mono fun e w' ⟨p, q⟩ => ⟨p, hx.trans (q.mono hx.size)⟩
  have HN := Lib.hid n1'
  have HD := Lib.hid n2
  obtain ⟨-, c1, c2, c3, -, -⟩ := n1'.c6
  obtain ⟨d0, d1, d2, d3, d4⟩ := n2.c5
  have hz : (⟨f, n, t, o, a, wd, wl, wc, hh, e⟩ : Ro).z = (o == 0 && a == 0 && wl == 0) := rfl
  unfold Ro.ty
  rw [hz] at hg ⊢
  show Calls _ _ _ _ fun e w' => e = .returned (.bool ((o == 0 && a == 0 && wl == 0) || evk n t k)) ∧ Below w.heap.size w w'
  generalize (o == 0 && a == 0 && wl == 0) = z at HZ hg ⊢
  clear h h' hw1 hw2 n1 n2 n1' b1 b2 hz k0 k1
  cases z with
  | true =>
    clear HM hg
    go_enter Tryz.func18, Tryz.ntmps18
    go_wp2_with (first | rw [HV.out] | rw [HW.out])
    refine (HZ.out _ (Below.refl _ _)).mono ?_
    rintro e w3 ⟨rfl, b3⟩
    clear c1 c2 c3 d0 d1 d2 d3 d4
    go_wp2_with fail
    go_ret
    exact ⟨rfl, B.trans (b3.mono B.size)⟩
  | false =>
    have hg' : wgt n t = true := by simpa using hg
    clear hg
    go_enter Tryz.func18, Tryz.ntmps18
    go_wp2_with (first | rw [HV.out] | rw [HW.out])
    refine (HZ.out _ (Below.refl _ _)).mono ?_
    rintro e w3 ⟨rfl, b3⟩
    clear c1 c2 c3 d0 d1 d2 d3 d4
    obtain ⟨-, c1, c2, c3, -, -⟩ := (HN.out.below b3).c6
    obtain ⟨d0, d1, d2, d3, d4⟩ := (HD.out.below b3).c5
    go_wp2_with fail
    refine (HM.out _ hg' b3).mono ?_
    rintro e w4 ⟨rfl, b4⟩
    go_wp2_with fail
    go_ret
    exact ⟨rfl, B.trans (b4.mono B.size)⟩

set_option maxRecDepth 100000 in
set_option maxHeartbeats 4000000 in
theorem rfit_any (L : List Ro) (ad : Option Addr) (cap : Nat) (w : World) (h : Rs w ad L) (hl : L.length ≤ 400) (hT : Tabs w) :
    Calls Tryz.prog 19 #[.slice ad L.length cap] w fun e w' => e = .returned (.bool (L.all Ro.ok)) ∧ Below w.heap.size w w' := by
  go_enter Tryz.func19, Tryz.ntmps19
  go_wp2
  go_loopg [7] L.length (fun g s7 wx => ∃ j : Nat, j + g = L.length ∧ s7 = .int .i64 j ∧ Below w.heap.size w wx ∧ (L.take j).all Ro.ok = true)
  case atStart => exact ⟨0, by omega, rfl, Below.refl _ _, rfl⟩
  case round =>
    obtain ⟨j, hig, rfl, hB, hA⟩ := hrel
    have HA := Lib.hid hA
    clear hA
    have hBs := hB.size
    cases gk with
    | zero =>
      obtain rfl : j = L.length := by omega
      go_wp2_with fail
      go_ret
      refine ⟨ret_b ?_, hB⟩
      have := HA.out
      rw [List.take_length] at this
      rw [this]
    | succ g =>
      have hi : j < L.length := by omega
      obtain ⟨x, hx⟩ : ∃ x, L[j]? = some x := ⟨_, List.getElem?_eq_getElem hi⟩
      obtain ⟨b, of, rfl, cc, rr, sz⟩ := (h.below hB).at j x hx
      have HX := Lib.hid hx
      have hno : x.ok = false → L.all Ro.ok = false := fun hk => by
        rw [List.all_eq_false]
        exact ⟨x, List.mem_of_getElem? hx, by rw [hk]; simp⟩
      have HNo := Lib.hid hno
      have hyes : x.ok = true → (L.take (j + 1)).all Ro.ok = true := fun hk => by
        have e : L.take (j + 1) = L.take j ++ [x] := by
          rw [List.take_add_one, hx]; rfl
        rw [e, List.all_append, HA.out]; simp [hk]
      have HYes := Lib.hid hyes
      have hok : x.ok = (isFilter (tl x.f) && decide (0 ≤ x.h) && (x.z || fitW x.n x.t)) := rfl
      obtain ⟨f, n, t, o, a, wd, wl, wc, hh, e⟩ := x
      obtain ⟨c0, c1, c2, c3, c4, c5⟩ := cc
      obtain ⟨w1, HW, b1, n1, z1⟩ := bx6 wr f o a wd wl wc hh e
      obtain ⟨k0, k1, k2, k3, k4, k5⟩ := n1.c6
      simp only at c0 c1 c2 c3 c4 c5 sz
      have rr' : RepW wr n [.int .i64 o, .int .i64 a, .slice wd wl wc] t := rr
      have hT1 : Tabs w1 := (hT.below hB).below b1
      have HF : Hid (∀ wx, Below w1.heap.size w1 wx → Calls Tryz.prog 28 #[.string f] wx fun e w' => e = .returned (.bool (isFilter (tl f))) ∧ Below w1.heap.size w1 w') := fun wx hx => (rfilter_any f wx (by unfold maxLen at sz; omega) (hT1.below hx)).mono fun e w' ⟨p, q⟩ => ⟨p, hx.trans (q.mono hx.size)⟩
      have HZ : Hid (∀ wx, Below w1.heap.size w1 wx → Calls Tryz.prog 32 #[.agg #[.int .i64 o, .int .i64 a, .slice wd wl wc]] wx fun e w' => e = .returned (.bool (o == 0 && a == 0 && wl == 0)) ∧ Below w1.heap.size w1 w') := fun wx hx => (rzero_any o a wd wl wc wx).mono fun e w' ⟨p, q⟩ => ⟨p, hx.trans (q.mono hx.size)⟩
      have HM : Hid (∀ wx, Below w1.heap.size w1 wx → Calls Tryz.prog 34 #[.agg #[.int .i64 o, .int .i64 a, .slice wd wl wc]] wx fun e w' => e = .returned (.bool (fitW n t)) ∧ Below w1.heap.size w1 w') := fun wx hx => (fit_any n t _ _ _ wx (RepW.below hx n _ _ (RepW.below b1 n _ _ rr'))).mono fun e w' ⟨p, q⟩ => ⟨p, hx.trans (q.mono hx.size)⟩
      have HB : Hid (∀ wx, Below w1.heap.size w1 wx → Below w.heap.size w wx) := fun wx hx => (hB.trans (b1.mono hB.size)).trans (hx.mono (Nat.le_trans hB.size b1.size))
      have HC : Hid (∀ wx, Below w1.heap.size w1 wx → Bk wx wr.heap.size #[.string f, .int .i64 o, .int .i64 a, .slice wd wl wc, .int .i64 hh, .bool e] 45) := fun wx hx => n1.below hx
      have hz : (⟨f, n, t, o, a, wd, wl, wc, hh, e⟩ : Ro).z = (o == 0 && a == 0 && wl == 0) := rfl
      simp only [hz] at hok
      generalize (o == 0 && a == 0 && wl == 0) = z at HZ hok
      generalize fitW n t = fw at HM hok
      generalize isFilter (tl f) = ff at HF hok
      have hhe : decide (0 ≤ hh) = !decide (hh < 0) := by
        by_cases h9 : 0 ≤ hh
        · rw [decide_eq_true h9, decide_eq_false (by omega)]; rfl
        · rw [decide_eq_false h9, decide_eq_true (by omega)]; rfl
      rw [hhe] at hok
      have hjl : (j : Int) < (L.length : Int) := by omega
      have HOK := Lib.hid hok
      have HH := Lib.hid h
      clear hok hz hhe rr rr' hT1 n1 hno hyes hx h b1 z1 hT hB sz

      cases ff with
      | false =>
        go_wp2_with (rw [HW.out])
        refine (HF.out _ (Below.refl _ _)).mono ?_
        rintro e2 w2 ⟨rfl, b2⟩
        clear c0 c1 c2 c3 c4 c5 k0 k1 k2 k3 k4 k5
        obtain ⟨c0, c1, c2, c3, c4, c5⟩ := (HC.out _ b2).c6
        go_wp2_with fail
        go_ret
        exact ⟨ret_b (HNo.out (by rw [HOK.out]; simp [*])).symm, HB.out _ b2⟩
      | true =>
        cases hlt : decide (hh < 0) with
        | true =>
          go_wp2_with (rw [HW.out])
          refine (HF.out _ (Below.refl _ _)).mono ?_
          rintro e2 w2 ⟨rfl, b2⟩
          clear c0 c1 c2 c3 c4 c5 k0 k1 k2 k3 k4 k5
          obtain ⟨c0, c1, c2, c3, c4, c5⟩ := (HC.out _ b2).c6
          go_wp2_with fail
          go_ret
          exact ⟨ret_b (HNo.out (by rw [HOK.out]; simp [*])).symm, HB.out _ b2⟩
        | false =>
          cases z with
          | true =>
            go_wp2_with (rw [HW.out])
            refine (HF.out _ (Below.refl _ _)).mono ?_
            rintro e2 w2 ⟨rfl, b2⟩
            clear c0 c1 c2 c3 c4 c5 k0 k1 k2 k3 k4 k5
            obtain ⟨c0, c1, c2, c3, c4, c5⟩ := (HC.out _ b2).c6
            go_wp2_with fail
            refine (HZ.out _ b2).mono ?_
            rintro e3 w3 ⟨rfl, b3⟩
            clear c0 c1 c2 c3 c4 c5
            go_wp2_with fail
            go_roundg g
            case measure => omega
            case rel => exact ⟨j + 1, by omega, by simp, HB.out _ b3, HYes.out (by rw [HOK.out]; simp [*])⟩
          | false =>
            cases fw with
            | true =>
              go_wp2_with (rw [HW.out])
              refine (HF.out _ (Below.refl _ _)).mono ?_
              rintro e2 w2 ⟨rfl, b2⟩
              clear c0 c1 c2 c3 c4 c5 k0 k1 k2 k3 k4 k5
              obtain ⟨c0, c1, c2, c3, c4, c5⟩ := (HC.out _ b2).c6
              go_wp2_with fail
              refine (HZ.out _ b2).mono ?_
              rintro e3 w3 ⟨rfl, b3⟩
              clear c0 c1 c2 c3 c4 c5
              obtain ⟨c0, c1, c2, c3, c4, c5⟩ := (HC.out _ b3).c6
              go_wp2_with fail
              refine (HM.out _ b3).mono ?_
              rintro e4 w4 ⟨rfl, b4⟩
              clear c0 c1 c2 c3 c4 c5
              go_wp2_with fail
              go_roundg g
              case measure => omega
              case rel => exact ⟨j + 1, by omega, by simp, HB.out _ b4, HYes.out (by rw [HOK.out]; simp [*])⟩
            | false =>
              go_wp2_with (rw [HW.out])
              refine (HF.out _ (Below.refl _ _)).mono ?_
              rintro e2 w2 ⟨rfl, b2⟩
              clear c0 c1 c2 c3 c4 c5 k0 k1 k2 k3 k4 k5
              obtain ⟨c0, c1, c2, c3, c4, c5⟩ := (HC.out _ b2).c6
              go_wp2_with fail
              refine (HZ.out _ b2).mono ?_
              rintro e3 w3 ⟨rfl, b3⟩
              clear c0 c1 c2 c3 c4 c5
              obtain ⟨c0, c1, c2, c3, c4, c5⟩ := (HC.out _ b3).c6
              go_wp2_with fail
              refine (HM.out _ b3).mono ?_
              rintro e4 w4 ⟨rfl, b4⟩
              clear c0 c1 c2 c3 c4 c5
              go_wp2_with fail
              go_ret
              exact ⟨ret_b (HNo.out (by rw [HOK.out]; simp [*])).symm, HB.out _ b4⟩
end Go.Proofs.YtkgbpildikjoiaaGreatDoor
