/- The document's Find, walked; the conditions that each theorem names. -/
import Derived.Test.YtkgbpildikjoiaaGreatDoorVb
import Derived.Maps.AppendAt
import Derived.OwnWalk
import Derived.Laws.OwnMore
import Derived.Deep.Onto
namespace Go.Proofs.YtkgbpildikjoiaaGreatDoor
open Go.RowKit Tp

/-- A message, as far as routes look at it. -/
structure Mg where
  id : Int
  tp : ByteArray
  k : Int
  i : Int
  u : Int
  s : ByteArray
  a : Option Addr
  l : Nat
  c : Nat
  ti : Int
  un : Int
  rp : ByteArray
  co : Int
  pr : Int
  ho : Int
abbrev Mg.cs (m : Mg) : Array Value := #[.int .i64 m.id, .string m.tp, .int .i64 m.k, .int .i64 m.i, .int .u64 m.u, .string m.s, .slice m.a m.l m.c, .int .i64 m.ti, .int .i64 m.un, .string m.rp, .int .i64 m.co, .int .i64 m.pr, .int .i64 m.ho]

theorem infoInt : (Tryz.prog.info? 3).map (fun i => (i.zero, i.size, i.bytes)) = some (some (.int .i64 0), 1, 8) := by kernel_rfl
theorem row_form {w : World} {base : Nat} {e : TypeId} {s n : Nat} {v : Value} {xs : List Value} (h : w.ownsRow base e s v n xs) : ∃ ad c, v = .slice ad n c := by
  obtain ⟨_, ⟨rfl, rfl⟩ | ⟨g, cap, cur, rfl, _⟩⟩ := h
  · exact ⟨_, _, rfl⟩
  · exact ⟨_, _, rfl⟩
theorem own_ne {w : World} {base : Nat} {e : TypeId} {s n : Nat} {v : Value} {xs : List Value} (h : w.ownsRow base e s v n xs) {N : Nat} (hN : N < base) : v.ownBlock ≠ some N := fun e => by
  have := (h.lt N e).1
  omega
theorem own_below {w w' : World} {base : Nat} {e : TypeId} {s n : Nat} {v : Value} {xs : List Value} (h : w.ownsRow base e s v n xs) (hb : Below w.heap.size w w') : w'.ownsRow base e s v n xs := by
  refine World.ownsRow.kept (row := none) h ⟨hb.os, hb.tape, hb.output, hb.size, fun k hk _ => hb.block k hk⟩ ?_
  cases v.ownBlock <;> simp

/-- The document's Find on its way: the message, the result's block, what was taken so far. -/
structure Fi (w : World) (mc : Array Value) (sv : Value) (e : Bool) (p : List Nat) (wx : World) : Prop where
  below : Below w.heap.size w wx
  m : Bk wx w.heap.size mc 28
  r : Bk wx (w.heap.size + 1) #[.slice none 0 0, .bool false] 33
  t : Bk wx (w.heap.size + 1 + 1) #[sv, .bool e] 33
  own : wx.ownsRow (w.heap.size + 3) 3 1 sv p.length (nv p)
theorem Fi.step {w wx wy : World} {mc : Array Value} {sv : Value} {e : Bool} {p : List Nat} (h : Fi w mc sv e p wx) (hb : Below wx.heap.size wx wy) : Fi w mc sv e p wy :=
  ⟨h.below.trans (hb.mono h.below.size), h.m.below hb, h.r.below hb, h.t.below hb, own_below h.own hb⟩
theorem Fi.put {x : Value} {T : TypeId} {w wx w5 : World} {mc : Array Value} {sv v1 : Value} {e e' : Bool} {p q : List Nat} (h : Fi w mc sv e p wx) (hg : (wx.alloc (.cells #[x] T)).grownBy w5 sv.ownBlock) (ho : w5.ownsRow (w.heap.size + 3) 3 1 v1 q.length (nv q)) :
    Fi w mc v1 e' q ((w5.setCell ⟨w.heap.size + 1 + 1, 0, none⟩ v1).setCell ⟨w.heap.size + 1 + 1, 1, none⟩ (.bool e')) := by
  have h1 := h.step (below1 wx (.cells #[x] T))
  have n0 := own_ne h.own (N := w.heap.size) (by omega)
  have n1 := own_ne h.own (N := w.heap.size + 1) (by omega)
  have n2 := own_ne h.own (N := w.heap.size + 1 + 1) (by omega)
  refine ⟨?_, ?_, ?_, ?_, ?_⟩
  · refine ((Below.setCell (p := ⟨w.heap.size + 1 + 1, 0, none⟩) ?_ (by simp; omega) _).setCell (p := ⟨w.heap.size + 1 + 1, 1, none⟩) (by simp; omega) _)
    exact ⟨hg.os.trans h1.below.os, hg.tape.trans h1.below.tape, hg.output.trans h1.below.output, Nat.le_trans h1.below.size hg.size, fun k hk => (hg.block k (Nat.lt_of_lt_of_le hk h1.below.size) (fun e => own_ne h.own (N := k) (by omega) e.symm)).trans (h1.below.block k hk)⟩
  · exact ((h1.m.grown hg n0).other _ _ (by simp; omega)).other _ _ (by simp; omega)
  · exact ((h1.r.grown hg n1).other _ _ (by simp)).other _ _ (by simp)
  · exact ((h1.t.grown hg n2).set 0 v1).set 1 (.bool e')
  · exact ownsRow_setCell_below (ownsRow_setCell_below ho (by simp) _) (by simp) _
theorem Fi.fin1 {w wx : World} {mc : Array Value} {sv : Value} {e : Bool} {p : List Nat} (h : Fi w mc sv e p wx) (e' : Bool) : ((wx.setCell ⟨w.heap.size + 1, 0, none⟩ sv).setCell ⟨w.heap.size + 1, 1, none⟩ (.bool e')).ownsRow w.heap.size 3 1 sv p.length (nv p) :=
  World.ownsRow.mono (ownsRow_setCell_below (ownsRow_setCell_below h.own (by simp) _) (by simp) _) (by omega)
theorem Fi.fin2 {w wx : World} {mc : Array Value} {sv : Value} {e : Bool} {p : List Nat} (h : Fi w mc sv e p wx) (v : Value) (e' : Bool) : Below w.heap.size w ((wx.setCell ⟨w.heap.size + 1, 0, none⟩ v).setCell ⟨w.heap.size + 1, 1, none⟩ (.bool e')) :=
  (h.below.setCell (p := ⟨w.heap.size + 1, 0, none⟩) (by simp) _).setCell (p := ⟨w.heap.size + 1, 1, none⟩) (by simp) _
theorem Fi.start (w : World) (mc : Array Value) : Fi w mc (.slice none 0 0) false [] (((w.alloc (.cells mc 28)).alloc (.cells #[.slice none 0 0, .bool false] 33)).alloc (.cells #[.slice none 0 0, .bool false] 33)) := by
  have b0 := below1 w (.cells mc 28)
  have n0 := Bk.new w mc 28
  have b1 := below1 (w.alloc (.cells mc 28)) (.cells #[.slice none 0 0, .bool false] 33)
  have n1 := Bk.new (w.alloc (.cells mc 28)) #[.slice none 0 0, .bool false] 33
  have b2 := below1 ((w.alloc (.cells mc 28)).alloc (.cells #[.slice none 0 0, .bool false] 33)) (.cells #[.slice none 0 0, .bool false] 33)
  have n2 := Bk.new ((w.alloc (.cells mc 28)).alloc (.cells #[.slice none 0 0, .bool false] 33)) #[.slice none 0 0, .bool false] 33
  simp only [World.size_alloc] at n1 n2 b1 b2
  refine ⟨b0.trans ((b1.trans (b2.mono (by omega))).mono (by omega)), (n0.below (by simpa using b1)).below (by simpa using b2), n1.below (by simpa using b2), n2, World.ownsRow_nil _ _ _ _⟩

theorem fn_take (r : Bool) (tp : Bs) (k : Int) (L : List Ro) (j : Nat) (x : Ro) (hj : L[j]? = some x) : fn r tp k (L.take (j + 1)) = fn r tp k (L.take j) ++ (if (x.e == r) && x.ag tp k then [j] else []) := fnd_take _ L j x hj
theorem fn_len (r : Bool) (tp : Bs) (k : Int) (L : List Ro) : (fn r tp k L).length ≤ L.length := fnd_len _ L 0
/-- What a route that is fit asks of its pattern. -/
theorem ok_right {x : Ro} (h : x.ok = true) : x.z = true ∨ wgt x.n x.t = true := by
  unfold Ro.ok at h
  simp only [Bool.and_eq_true, Bool.or_eq_true] at h
  rcases h.2 with h | h
  · exact .inl h
  · exact .inr (fitW_right _ _ h)


set_option maxRecDepth 100000 in
set_option maxHeartbeats 4000000 in
theorem rfind_any (L : List Ro) (ad : Option Addr) (cap : Nat) (m : Mg) (w : World) (h : Rs w ad L) (hl : L.length ≤ 400) (hk : ∀ x ∈ L, x.ok = true) (hkk : 0 ≤ m.k ∧ m.k ≤ 13) (hmt : m.tp.size ≤ 9223372036854775807) (hT : Tabs w) :
    Calls Tryz.prog 10 #[.slice ad L.length cap, .agg m.cs] w fun e w' => ∃ sv, e = .returned (.agg #[sv, .bool (tkE (tl m.tp) m.k L)]) ∧ w'.ownsRow w.heap.size 3 1 sv (tkR (tl m.tp) m.k L).length (nv (tkR (tl m.tp) m.k L)) ∧ Below w.heap.size w w' := by
  obtain ⟨i0, hi0, hz0, hz1, hz2⟩ := info_parts infoInt
  have HS := Lib.hid h
  have HK := Lib.hid hk
  have HKK := Lib.hid hkk
  have HMT := Lib.hid hmt
  have HT := Lib.hid hT
  have F0 := Lib.hid (Fi.start w m.cs)
  clear h hk hkk hmt hT
  go_enter Tryz.func10, Tryz.ntmps10
  go_wp2
  go_loopg [6] 2 (fun g s6 wx => ∃ (sv : Value) (e : Bool) (p : List Nat), ((g = 2 ∧ s6 = .int .i64 0 ∧ p = [] ∧ e = false) ∨ (g = 1 ∧ s6 = .int .i64 1 ∧ p = fn false (tl m.tp) m.k L ∧ e = false) ∨ (g = 0 ∧ s6 = .int .i64 2 ∧ fn false (tl m.tp) m.k L = [] ∧ p = fn true (tl m.tp) m.k L ∧ e = !decide (p = []))) ∧ Fi w m.cs sv e p wx)
  case atStart => exact ⟨_, false, [], .inl ⟨rfl, rfl, rfl, rfl⟩, F0.out⟩
  case round =>
    clear F0
    obtain ⟨sv, e, p, hc, hF⟩ := hrel
    obtain ⟨sa, sc, rfl⟩ := row_form hF.own
    have F0 := Lib.hid hF
    obtain ⟨t0, t1⟩ := hF.t.c2
    have t6 := hF.r.f 0
    have t7 := hF.r.f 1
    obtain ⟨t8, t9⟩ := hF.r.c2
    clear hF
    rcases hc with ⟨rfl, rfl, rfl, rfl⟩ | ⟨rfl, rfl, rfl, rfl⟩ | ⟨rfl, rfl, he, rfl, rfl⟩
    · simp only [List.length_nil] at t0
      go_wp2
      clear t0 t1 t6 t7 t8 t9
      go_loopg [21] L.length (fun g s21 wx => ∃ (j : Nat) (sv : Value), j + g = L.length ∧ s21 = .int .i64 j ∧ Fi w m.cs sv (false) (fn false (tl m.tp) m.k (L.take j)) wx)
      case atStart => exact ⟨0, _, by omega, rfl, F0.out⟩
      case round =>
        obtain ⟨j, sv, hig, rfl, hF⟩ := hrel
        have HF0 := Lib.hid hF
        clear hF
        cases gk with
        | zero =>
          obtain rfl : j = L.length := by omega
          go_wp2
          go_roundg 1
          case measure => omega
          case rel => exact ⟨sv, false, fn false (tl m.tp) m.k L, .inr (.inl ⟨rfl, rfl, rfl, rfl⟩), by simpa using HF0.out⟩
        | succ g =>
          have hi : j < L.length := by omega
          obtain ⟨x, hx⟩ : ∃ x, L[j]? = some x := ⟨_, List.getElem?_eq_getElem hi⟩
          obtain ⟨b, of, rfl, cc, rr, sz⟩ := (HS.out.below HF0.out.below).at j x hx
          have hg := ok_right (HK.out x (List.mem_of_getElem? hx))
          have ht := fn_take false (tl m.tp) m.k L j x hx
          have hag : x.ag (tl m.tp) m.k = (x.tp (tl m.tp) && x.ty m.k) := rfl
          have HTK := Lib.hid ht
          obtain ⟨f, n, t, o, a, wd, wl, wc, hh, xe⟩ := x
          obtain ⟨c0, c1, c2, c3, c4, c5⟩ := cc
          obtain ⟨w1, HW, b1, n1, z1⟩ := bx6 wr f o a wd wl wc hh xe
          obtain ⟨k0, k1, k2, k3, k4, k5⟩ := n1.c6
          simp only at c0 c1 c2 c3 c4 c5
          have HC : Hid (∀ wx, Below w1.heap.size w1 wx → Bk wx wr.heap.size #[.string f, .int .i64 o, .int .i64 a, .slice wd wl wc, .int .i64 hh, .bool xe] 45) := fun wx hx => n1.below hx
          have B1 : Below w.heap.size w w1 := HF0.out.below.trans (b1.mono HF0.out.below.size)
          have rr1 : RepW w1 n [.int .i64 o, .int .i64 a, .slice wd wl wc] t := RepW.below b1 _ _ _ rr
          have hTr : Tabs w1 := HT.out.below B1
          have HTY : Hid (∀ wx, Below w1.heap.size w1 wx → Calls Tryz.prog 18 #[.agg #[.string f, .int .i64 o, .int .i64 a, .slice wd wl wc, .int .i64 hh, .bool xe], .agg #[.int .i64 m.k, .int .i64 m.i, .int .u64 m.u, .string m.s, .slice m.a m.l m.c]] wx fun e w' => e = .returned (.bool ((⟨f, n, t, o, a, wd, wl, wc, hh, xe⟩ : Ro).ty m.k)) ∧ Below w1.heap.size w1 w') := fun wx hx => (rtyped_any ⟨f, n, t, o, a, wd, wl, wc, hh, xe⟩ m.k m.i m.u m.s m.a m.l m.c wx (RepW.below hx _ _ _ rr1) hg HKK.out.1 HKK.out.2).mono fun e w' ⟨p, q⟩ => ⟨p, hx.trans (q.mono hx.size)⟩
          have HMA : Hid (∀ wx, Below w1.heap.size w1 wx → Calls Tryz.prog 17 #[.string f, .string m.tp] wx fun e w' => e = .returned (.bool ((⟨f, n, t, o, a, wd, wl, wc, hh, xe⟩ : Ro).tp (tl m.tp))) ∧ Below w1.heap.size w1 w') := fun wx hx => (rmatch_any f m.tp wx (by unfold maxLen at sz; simp only at sz; omega) HMT.out (hTr.below hx)).mono fun e w' ⟨p, q⟩ => ⟨by rw [p]; exact ret_b (match_ref _ _).symm, hx.trans (q.mono hx.size)⟩
          generalize (⟨f, n, t, o, a, wd, wl, wc, hh, xe⟩ : Ro).ty m.k = ty at HTY hag
          generalize (⟨f, n, t, o, a, wd, wl, wc, hh, xe⟩ : Ro).tp (tl m.tp) = mt at HMA hag
          have HAG := Lib.hid hag
          have F1 := Lib.hid (HF0.out.step b1)
          have hjl : (j : Int) < (L.length : Int) := by omega
          obtain ⟨-, m1, m2, m3, m4, m5, m6, -⟩ := F1.out.m.c13
          have hs1 := HF0.out.below.size
          clear hx rr rr1 sz hg ht hag hTr n1 z1 B1
          cases xe with
          | true =>
            go_wp2_with (rw [HW.out])
            go_roundg g
            case measure => omega
            case rel =>
              refine ⟨j + 1, sv, by omega, by simp, ?_⟩
              have e1 := HTK.out
              have e2 := HAG.out
              simp only [e2] at e1
              simp at e1
              rw [e1]
              exact F1.out
          | false =>
            cases mt with
            | false =>
              go_wp2_with (rw [HW.out])
              refine (HMA.out _ (Below.refl _ _)).mono ?_
              rintro e2 w2 ⟨rfl, b2⟩
              clear c0 c1 c2 c3 c4 c5 k0 k1 k2 k3 k4 k5 m1 m2 m3 m4 m5 m6
              go_wp2_with fail
              go_roundg g
              case measure => omega
              case rel =>
                refine ⟨j + 1, sv, by omega, by simp, ?_⟩
                have e1 := HTK.out
                have e2 := HAG.out
                simp only [e2] at e1
                simp at e1
                rw [e1]
                exact F1.out.step b2
            | true =>
              cases ty with
              | false =>
                go_wp2_with (rw [HW.out])
                refine (HMA.out _ (Below.refl _ _)).mono ?_
                rintro e2 w2 ⟨rfl, b2⟩
                clear c0 c1 c2 c3 c4 c5 k0 k1 k2 k3 k4 k5 m1 m2 m3 m4 m5 m6
                obtain ⟨c0, c1, c2, c3, c4, c5⟩ := (HC.out _ b2).c6
                obtain ⟨-, -, m2, m3, m4, m5, m6, -⟩ := (F1.out.step b2).m.c13
                go_wp2_with fail
                refine (HTY.out _ b2).mono ?_
                rintro e3 w3 ⟨rfl, b3⟩
                clear c0 c1 c2 c3 c4 c5 m2 m3 m4 m5 m6
                go_wp2_with fail
                go_roundg g
                case measure => omega
                case rel =>
                  refine ⟨j + 1, sv, by omega, by simp, ?_⟩
                  have e1 := HTK.out
                  have e2 := HAG.out
                  simp only [e2] at e1
                  simp at e1
                  rw [e1]
                  exact F1.out.step b3
              | true =>
                go_wp2_with (rw [HW.out])
                refine (HMA.out _ (Below.refl _ _)).mono ?_
                rintro e2 w2 ⟨rfl, b2⟩
                clear c0 c1 c2 c3 c4 c5 k0 k1 k2 k3 k4 k5 m1 m2 m3 m4 m5 m6
                obtain ⟨c0, c1, c2, c3, c4, c5⟩ := (HC.out _ b2).c6
                obtain ⟨-, -, m2, m3, m4, m5, m6, -⟩ := (F1.out.step b2).m.c13
                go_wp2_with fail
                refine (HTY.out _ b2).mono ?_
                rintro e3 w3 ⟨rfl, b3⟩
                clear c0 c1 c2 c3 c4 c5 m2 m3 m4 m5 m6
                have F3 := Lib.hid (F1.out.step b3)
                obtain ⟨t0, t1⟩ := F3.out.t.c2
                have hpl : (fn false (tl m.tp) m.k (L.take j)).length ≤ 400 := Nat.le_trans (fn_len _ _ _ _) (by rw [List.length_take]; omega)
                have hown := F3.out.own
                have hsz := F3.out.t.lt
                go_wp2_with (at_builtin; refine wpList_append_own _ rfl _ _ 31 rfl (w.heap.size + 3) 3 i0 (.int .i64 0) 1 8 Tryz.underlying31 hi0 hz0 hz1 hz2 rfl (by decide) _ _ _ rfl (hown.alloc _) ⟨w3.heap.size, 0, none⟩ 1 1 [.int .i64 (j : Int)] rfl rfl (cell_one_new _ _ _) (by intro u hu; simp at hu; subst hu; rfl) (by unfold maxLen; omega) (by omega) (by simp; omega) ?_; intro v1 w5 hown5 hgrow5 hnil5; obtain ⟨va, vc, rfl⟩ := row_form hown5; have T5 := (F3.out.step (below1 _ (.cells #[.int .i64 (j : Int)] 3))).t.grown hgrow5 (own_ne hown (by omega)); obtain ⟨t2, t3⟩ := T5.c2; have t4 := T5.f 0; have t5 := T5.f 1)
                go_roundg g
                case measure => omega
                case rel =>
                  refine ⟨j + 1, .slice va ((fn false (tl m.tp) m.k (L.take j)).length + 1) vc, by omega, by simp, ?_⟩
                  have e1 := HTK.out
                  have e2 := HAG.out
                  simp only [e2] at e1
                  simp at e1
                  rw [e1]
                  refine Fi.put F3.out hgrow5 ?_
                  simpa using hown5
    · by_cases hp : fn false (tl m.tp) m.k L = []
      · rw [hp] at F0 t0
        have HE := Lib.hid hp
        clear hp
        simp only [List.length_nil] at t0 F0
        go_wp2
        clear t0 t1 t6 t7 t8 t9
        go_loopg [21] L.length (fun g s21 wx => ∃ (j : Nat) (sv : Value), j + g = L.length ∧ s21 = .int .i64 j ∧ Fi w m.cs sv (!decide (fn true (tl m.tp) m.k (L.take j) = [])) (fn true (tl m.tp) m.k (L.take j)) wx)
        case atStart => exact ⟨0, _, by omega, rfl, F0.out⟩
        case round =>
          obtain ⟨j, sv, hig, rfl, hF⟩ := hrel
          have HF0 := Lib.hid hF
          clear hF
          cases gk with
          | zero =>
            obtain rfl : j = L.length := by omega
            go_wp2
            go_roundg 0
            case measure => omega
            case rel => exact ⟨sv, !decide (fn true (tl m.tp) m.k L = []), fn true (tl m.tp) m.k L, .inr (.inr ⟨rfl, rfl, HE.out, rfl, rfl⟩), by simpa using HF0.out⟩
          | succ g =>
            have hi : j < L.length := by omega
            obtain ⟨x, hx⟩ : ∃ x, L[j]? = some x := ⟨_, List.getElem?_eq_getElem hi⟩
            obtain ⟨b, of, rfl, cc, rr, sz⟩ := (HS.out.below HF0.out.below).at j x hx
            have hg := ok_right (HK.out x (List.mem_of_getElem? hx))
            have ht := fn_take true (tl m.tp) m.k L j x hx
            have hag : x.ag (tl m.tp) m.k = (x.tp (tl m.tp) && x.ty m.k) := rfl
            have HTK := Lib.hid ht
            obtain ⟨f, n, t, o, a, wd, wl, wc, hh, xe⟩ := x
            obtain ⟨c0, c1, c2, c3, c4, c5⟩ := cc
            obtain ⟨w1, HW, b1, n1, z1⟩ := bx6 wr f o a wd wl wc hh xe
            obtain ⟨k0, k1, k2, k3, k4, k5⟩ := n1.c6
            simp only at c0 c1 c2 c3 c4 c5
            have HC : Hid (∀ wx, Below w1.heap.size w1 wx → Bk wx wr.heap.size #[.string f, .int .i64 o, .int .i64 a, .slice wd wl wc, .int .i64 hh, .bool xe] 45) := fun wx hx => n1.below hx
            have B1 : Below w.heap.size w w1 := HF0.out.below.trans (b1.mono HF0.out.below.size)
            have rr1 : RepW w1 n [.int .i64 o, .int .i64 a, .slice wd wl wc] t := RepW.below b1 _ _ _ rr
            have hTr : Tabs w1 := HT.out.below B1
            have HTY : Hid (∀ wx, Below w1.heap.size w1 wx → Calls Tryz.prog 18 #[.agg #[.string f, .int .i64 o, .int .i64 a, .slice wd wl wc, .int .i64 hh, .bool xe], .agg #[.int .i64 m.k, .int .i64 m.i, .int .u64 m.u, .string m.s, .slice m.a m.l m.c]] wx fun e w' => e = .returned (.bool ((⟨f, n, t, o, a, wd, wl, wc, hh, xe⟩ : Ro).ty m.k)) ∧ Below w1.heap.size w1 w') := fun wx hx => (rtyped_any ⟨f, n, t, o, a, wd, wl, wc, hh, xe⟩ m.k m.i m.u m.s m.a m.l m.c wx (RepW.below hx _ _ _ rr1) hg HKK.out.1 HKK.out.2).mono fun e w' ⟨p, q⟩ => ⟨p, hx.trans (q.mono hx.size)⟩
            have HMA : Hid (∀ wx, Below w1.heap.size w1 wx → Calls Tryz.prog 17 #[.string f, .string m.tp] wx fun e w' => e = .returned (.bool ((⟨f, n, t, o, a, wd, wl, wc, hh, xe⟩ : Ro).tp (tl m.tp))) ∧ Below w1.heap.size w1 w') := fun wx hx => (rmatch_any f m.tp wx (by unfold maxLen at sz; simp only at sz; omega) HMT.out (hTr.below hx)).mono fun e w' ⟨p, q⟩ => ⟨by rw [p]; exact ret_b (match_ref _ _).symm, hx.trans (q.mono hx.size)⟩
            generalize (⟨f, n, t, o, a, wd, wl, wc, hh, xe⟩ : Ro).ty m.k = ty at HTY hag
            generalize (⟨f, n, t, o, a, wd, wl, wc, hh, xe⟩ : Ro).tp (tl m.tp) = mt at HMA hag
            have HAG := Lib.hid hag
            have F1 := Lib.hid (HF0.out.step b1)
            have hjl : (j : Int) < (L.length : Int) := by omega
            obtain ⟨-, m1, m2, m3, m4, m5, m6, -⟩ := F1.out.m.c13
            have hs1 := HF0.out.below.size
            clear hx rr rr1 sz hg ht hag hTr n1 z1 B1
            cases xe with
            | false =>
              go_wp2_with (rw [HW.out])
              go_roundg g
              case measure => omega
              case rel =>
                refine ⟨j + 1, sv, by omega, by simp, ?_⟩
                have e1 := HTK.out
                have e2 := HAG.out
                simp only [e2] at e1
                simp at e1
                rw [e1]
                exact F1.out
            | true =>
              cases mt with
              | false =>
                go_wp2_with (rw [HW.out])
                refine (HMA.out _ (Below.refl _ _)).mono ?_
                rintro e2 w2 ⟨rfl, b2⟩
                clear c0 c1 c2 c3 c4 c5 k0 k1 k2 k3 k4 k5 m1 m2 m3 m4 m5 m6
                go_wp2_with fail
                go_roundg g
                case measure => omega
                case rel =>
                  refine ⟨j + 1, sv, by omega, by simp, ?_⟩
                  have e1 := HTK.out
                  have e2 := HAG.out
                  simp only [e2] at e1
                  simp at e1
                  rw [e1]
                  exact F1.out.step b2
              | true =>
                cases ty with
                | false =>
                  go_wp2_with (rw [HW.out])
                  refine (HMA.out _ (Below.refl _ _)).mono ?_
                  rintro e2 w2 ⟨rfl, b2⟩
                  clear c0 c1 c2 c3 c4 c5 k0 k1 k2 k3 k4 k5 m1 m2 m3 m4 m5 m6
                  obtain ⟨c0, c1, c2, c3, c4, c5⟩ := (HC.out _ b2).c6
                  obtain ⟨-, -, m2, m3, m4, m5, m6, -⟩ := (F1.out.step b2).m.c13
                  go_wp2_with fail
                  refine (HTY.out _ b2).mono ?_
                  rintro e3 w3 ⟨rfl, b3⟩
                  clear c0 c1 c2 c3 c4 c5 m2 m3 m4 m5 m6
                  go_wp2_with fail
                  go_roundg g
                  case measure => omega
                  case rel =>
                    refine ⟨j + 1, sv, by omega, by simp, ?_⟩
                    have e1 := HTK.out
                    have e2 := HAG.out
                    simp only [e2] at e1
                    simp at e1
                    rw [e1]
                    exact F1.out.step b3
                | true =>
                  go_wp2_with (rw [HW.out])
                  refine (HMA.out _ (Below.refl _ _)).mono ?_
                  rintro e2 w2 ⟨rfl, b2⟩
                  clear c0 c1 c2 c3 c4 c5 k0 k1 k2 k3 k4 k5 m1 m2 m3 m4 m5 m6
                  obtain ⟨c0, c1, c2, c3, c4, c5⟩ := (HC.out _ b2).c6
                  obtain ⟨-, -, m2, m3, m4, m5, m6, -⟩ := (F1.out.step b2).m.c13
                  go_wp2_with fail
                  refine (HTY.out _ b2).mono ?_
                  rintro e3 w3 ⟨rfl, b3⟩
                  clear c0 c1 c2 c3 c4 c5 m2 m3 m4 m5 m6
                  have F3 := Lib.hid (F1.out.step b3)
                  obtain ⟨t0, t1⟩ := F3.out.t.c2
                  have hpl : (fn true (tl m.tp) m.k (L.take j)).length ≤ 400 := Nat.le_trans (fn_len _ _ _ _) (by rw [List.length_take]; omega)
                  have hown := F3.out.own
                  have hsz := F3.out.t.lt
                  go_wp2_with (at_builtin; refine wpList_append_own _ rfl _ _ 31 rfl (w.heap.size + 3) 3 i0 (.int .i64 0) 1 8 Tryz.underlying31 hi0 hz0 hz1 hz2 rfl (by decide) _ _ _ rfl (hown.alloc _) ⟨w3.heap.size, 0, none⟩ 1 1 [.int .i64 (j : Int)] rfl rfl (cell_one_new _ _ _) (by intro u hu; simp at hu; subst hu; rfl) (by unfold maxLen; omega) (by omega) (by simp; omega) ?_; intro v1 w5 hown5 hgrow5 hnil5; obtain ⟨va, vc, rfl⟩ := row_form hown5; have T5 := (F3.out.step (below1 _ (.cells #[.int .i64 (j : Int)] 3))).t.grown hgrow5 (own_ne hown (by omega)); obtain ⟨t2, t3⟩ := T5.c2; have t4 := T5.f 0; have t5 := T5.f 1)
                  go_roundg g
                  case measure => omega
                  case rel =>
                    refine ⟨j + 1, .slice va ((fn true (tl m.tp) m.k (L.take j)).length + 1) vc, by omega, by simp, ?_⟩
                    have e1 := HTK.out
                    have e2 := HAG.out
                    simp only [e2] at e1
                    simp at e1
                    rw [e1]
                    rw [show (!decide (fn true (tl m.tp) m.k (L.take j) ++ [j] = [])) = true by simp]
                    refine Fi.put F3.out hgrow5 ?_
                    simpa using hown5
      · have hl0 : (((fn false (tl m.tp) m.k L).length : Int) == 0) = false := by
          refine beq_false_of_ne fun e9 => hp ?_
          exact List.eq_nil_of_length_eq_zero (by omega)
        have HP := Lib.hid hp
        clear hp
        go_wp2
        refine bodyPost_ret (v := .agg #[.slice sa (fn false (tl m.tp) m.k L).length sc, .bool false]) (by simp [results, Tryz.results10, go_sem, World.cell?_setCell_same, World.cell?_setCell_other, t8, t9]) rfl ⟨_, by rw [show tkE (tl m.tp) m.k L = false by simp [tkE, HP.out]], ?_, ?_⟩
        · rw [show tkR (tl m.tp) m.k L = fn false (tl m.tp) m.k L by simp [tkR, HP.out]]
          exact F0.out.fin1 false
        · exact F0.out.fin2 _ false
    · go_wp2
      refine bodyPost_ret (v := .agg #[.slice sa (fn true (tl m.tp) m.k L).length sc, .bool (!decide (fn true (tl m.tp) m.k L = []))]) (by simp [results, Tryz.results10, go_sem, World.cell?_setCell_same, World.cell?_setCell_other, t8, t9]) rfl ⟨_, by rw [show tkE (tl m.tp) m.k L = !decide (fn true (tl m.tp) m.k L = []) by simp [tkE, he]], ?_, ?_⟩
      · rw [show tkR (tl m.tp) m.k L = fn true (tl m.tp) m.k L by simp [tkR, he]]
        exact F0.out.fin1 _
      · exact F0.out.fin2 _ _
end Go.Proofs.YtkgbpildikjoiaaGreatDoor
