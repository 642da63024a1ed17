/- The document's own answer: the token that begins at a place: a mark; and any token; what is asked: the bytes lie in memory, at most 65536. -/
import Derived.Test.YtbkakdmkabhcnaaDoorRj
namespace Go.Proofs.YtbkakdmkabhcnaaDoor
open Go.RowKit Go.Maps

theorem mk1_all : ∀ n : Fin 256, mk [UInt8.ofNat n.val] = kd [UInt8.ofNat n.val] ∧ (kd [UInt8.ofNat n.val] = 0 ∨ (15 ≤ kd [UInt8.ofNat n.val] ∧ (sp (kd [UInt8.ofNat n.val])).length = 1)) := by decide +kernel
theorem mk1_kd (x : UInt8) : mk [x] = kd [x] ∧ (kd [x] = 0 ∨ (15 ≤ kd [x] ∧ (sp (kd [x])).length = 1)) := by
  have := mk1_all ⟨x.toNat, x.toNat_lt⟩
  simpa using this
theorem kd2 (x y : UInt8) (h : ltr x = false) : kd [x, y] = if x = 45 ∧ y = 62 then 21 else 0 := by
  have h1 : ¬ (111 : UInt8) = x := fun e => by subst e; revert h; decide
  by_cases hx : x = 45
  · subst hx
    by_cases hy : y = 62
    · subst hy; rfl
    · rw [if_neg (fun e => hy e.2)]
      have : ¬ (62 : UInt8) = y := fun e => hy e.symm
      simp [kd, kdF, spl, this]
  · rw [if_neg (fun e => hx e.1)]
    have : ¬ (45 : UInt8) = x := fun e => hx e.symm
    simp [kd, kdF, spl, this, h1]
theorem mk2 (x y : UInt8) (t : Bs) : mk (x :: y :: t) = if x = 45 ∧ y = 62 then 21 else mk [x] := by
  by_cases hx : x = 45
  · subst hx
    by_cases hy : y = 62
    · subst hy; simp [mk, mkF, sp, spl, Lib.hasPrefix, List.isPrefixOf]
    · rw [if_neg (fun e => hy e.2)]
      have : ((62 : UInt8) == y) = false := by simpa using fun e : (62 : UInt8) = y => hy e.symm
      simp [mk, mkF, sp, spl, Lib.hasPrefix, List.isPrefixOf, this]
  · rw [if_neg (fun e => hx e.1)]
    have : ((45 : UInt8) == x) = false := by simpa using fun e : (45 : UInt8) = x => hx e.symm
    simp [mk, mkF, sp, spl, Lib.hasPrefix, List.isPrefixOf, this]

/-- What a mark of so many bytes at most is. -/
def mkN (x : UInt8) (t : Bs) : Nat → One
  | 0 => .inl 61
  | 1 => if kd [x] = 0 then .inl 61 else .inr ((kd [x]), 1, 0, [])
  | _ => mrkT (x :: t)
theorem mkN_e0 (x : UInt8) (t : Bs) : mkN x t 0 = .inl 61 := rfl
theorem mkN_e1 (x : UInt8) (t : Bs) : mkN x t 1 = if kd [x] = 0 then .inl 61 else .inr ((kd [x]), 1, 0, []) := rfl
theorem mkN_e2 (x : UInt8) (t : Bs) : mkN x t 2 = mrkT (x :: t) := rfl
theorem mkN_1 (x : UInt8) : mkN x [] 2 = mkN x [] 1 := by
  obtain ⟨h1, h2⟩ := mk1_kd x
  rw [mkN_e2, mkN_e1, mrkT, h1]
  rcases h2 with h2 | ⟨h2, h3⟩
  · rw [if_pos h2, if_pos h2]
  · rw [if_neg (by omega), if_neg (by omega), h3]
theorem mkN_2 (x y : UInt8) (t : Bs) (h : ltr x = false) : mkN x (y :: t) 2 = if kd [x, y] = 21 then .inr (21, 2, 0, []) else mkN x (y :: t) 1 := by
  obtain ⟨h1, h2⟩ := mk1_kd x
  rw [kd2 x y h, mkN_e2, mkN_e1, mrkT, mk2]
  by_cases hxy : x = 45 ∧ y = 62
  · simp only [if_pos hxy]; rfl
  · simp only [if_neg hxy, h1]
    rw [if_neg (show ¬ (0 : Nat) = 21 by decide)]
    rcases h2 with h2 | ⟨h2, h3⟩
    · rw [if_pos h2, if_pos h2]
    · rw [if_neg (by omega), if_neg (by omega), h3]
theorem kd2_or (x y : UInt8) (h : ltr x = false) : kd [x, y] = 0 ∨ kd [x, y] = 21 := by
  rw [kd2 x y h]; split <;> simp

set_option maxRecDepth 100000 in
set_option maxHeartbeats 1200000 in
theorem rone_mark (b o c p : Nat) (l t : Bs) (x : UInt8) (w : World) (hl : Byt w b o l) (hb : b < w.heap.size) (hp : p < l.length) (hs : l.length ≤ 65536) (hc : l.length ≤ c) (hd : l.drop p = x :: t) (hx1 : ltr x = false) (hx2 : dig x = false) (hx3 : x.toNat ≠ 34) :
    Calls Tryd.prog 10 #[.slice (some ⟨b, o, none⟩) l.length c, .int .i64 p] w (RO w p (mrkT (x :: t))) := by
  have c1 := hl p hp
  have hx0 : l[p] = x := by have := drop_cons_of hp; rw [hd] at this; exact (List.cons.inj this).1.symm
  rw [hx0] at c1
  have KL := Lib.hid (letter_any x)
  have KG := Lib.hid (rdigit_any x)
  rw [hx1] at KL
  rw [hx2] at KG
  have q34 : ((x.toNat : Int) == 34) = false := by simp; omega
  have B0 := Lib.hid (((Below.refl w.heap.size w).alloc (Nat.le_refl _) (.cells #[.int .i64 0, .int .i64 0, .int .i64 0, .int .u64 0, .string ⟨#[]⟩] 33)).alloc (by simp) (.cells #[.int .i64 0, .int .i64 p, .int .i64 0, .int .u64 0, .string ⟨#[]⟩] 33))
  have KC : Hid (∀ (k : Nat) W, Below (tp w p).heap.size (tp w p) W → p + k ≤ l.length → (convert 22 9 (.slice (some ⟨b, o + p, none⟩) k (c - p))).run Tryd.prog W = .ok (.string (bs ((x :: t).take k))) W) := fun k W hW h => by
    have hW2 : Below w.heap.size w W := B0.out.trans (hW.mono (by simp; omega))
    rw [← hd]
    exact conv_win (hl.below hW2 hb) p k (c - p) h
  have KK : Hid (∀ D W, Calls Tryd.prog 25 #[.string (bs D)] W fun e w' => e = .returned (.int .i64 (kd D)) ∧ Below W.heap.size W w') := fun D W => by have := rkind_any (bs D) W; rwa [tl_bs] at this
  have HT := Lib.hid (fun W h => t5_two w p W h)
  have HB2 : Hid (∀ W, Below (tp w p).heap.size (tp w p) W → Below w.heap.size w W) := fun W h => B0.out.trans (h.mono (by simp; omega))
  have hlen : l.length = p + 1 + t.length := by have := congrArg List.length hd; rw [List.length_drop, List.length_cons] at this; omega
  obtain ⟨O, hO⟩ : ∃ O, mrkT (x :: t) = O := ⟨_, rfl⟩
  rw [hO]
  have HO : Hid (O = mkN x t 2) := hO.symm
  have HX1 := Lib.hid hx1
  have HX0 := Lib.hid (mk1_kd x)
  clear hx0 hO hd hx1 hx2 hx3 hl
  obtain ⟨n, hn⟩ : ∃ n, l.length = n := ⟨_, rfl⟩
  rw [hn] at hp hs hc hlen KC ⊢
  clear hn
  have hp' : ((p : Nat) : Int) < n := by omega
  go_enter Tryd.func10, Tryd.ntmps10
  go_wp2_with (first
    | (go_at_call 23; refine (KL.out _).mono ?_; rintro e w2 ⟨rfl, h2⟩; have h2' := h2.symm; subst h2')
    | (go_at_call 24; refine (KG.out _).mono ?_; rintro e w3 ⟨rfl, h3⟩; have h3' := h3.symm; subst h3'))
  go_loopg [12] 2 (fun gk s12 wx => ∃ j : Nat, j = gk ∧ j ≤ 2 ∧ s12 = .int .i64 j ∧ O = mkN x t j ∧ Below (tp w p).heap.size (tp w p) wx)
  case atStart => exact ⟨2, rfl, Nat.le_refl _, rfl, HO.out, Below.refl _ _⟩
  case round =>
    obtain ⟨j, rfl, hj2, rfl, hq, hbw⟩ := hrel
    have HQ := Lib.hid hq
    have HW := Lib.hid hbw
    obtain ⟨⟨c0, c1', c2, c3, c4⟩, ⟨d0, d1, d2, d3, d4⟩, fz, gz⟩ := HT.out _ hbw
    clear hq hbw c1 KL KG HO
    rcases (by omega : j = 0 ∨ j = 1 ∨ j = 2) with rfl | rfl | rfl
    · have HOO : Hid (O = .inl 61) := HQ.out
      go_wp2_with fail
      refine bodyPost_ret (v := .tuple #[.agg #[.int .i64 0, .int .i64 p, .int .i64 0, .int .u64 0, .string ⟨#[]⟩], .int .i64 61]) (by simp [results, Tryd.results10, go_sem, World.cell?_setCell_same, World.cell?_setCell_other, c0, c1', c2, c3, c4]) rfl ?_
      rw [HOO.out]
      exact ⟨((((((HB2.out _ HW.out).setCell (Nat.le_refl _) _).setCell (Nat.le_refl _) _).setCell (Nat.le_refl _) _).setCell (Nat.le_refl _) _).setCell (Nat.le_refl _) _), _, _, _, _, _, rfl⟩
    · have kc := KC.out 1 wr HW.out (by omega)
      rw [show (x :: t).take 1 = [x] from rfl] at kc
      have KK1 := Lib.hid (KK.out [x] wr)
      have q1 : (p : Int) + 1 ≤ n := by omega
      rcases HX0.out.2 with h0 | ⟨h15, hsp⟩
      · rw [h0] at KK1
        have HOO : Hid (O = mkN x t 0) := by show O = _; rw [HQ.out, mkN_e1, if_pos h0, mkN_e0]
        clear h0
        go_wp2_with (first
          | (go_at_call 25; refine KK1.out.mono ?_; rintro e w4 ⟨rfl, b4⟩))
        go_roundg 0
        case measure => omega
        case rel => exact ⟨0, rfl, by omega, by first | rfl | simp, HOO.out, HW.out.trans (b4.mono HW.out.size)⟩
      · have HOO : Hid (O = .inr ((kd [x]), 1, 0, [])) := by show O = _; rw [HQ.out, mkN_e1, if_neg (by omega)]
        have q2 : (15 : Int) ≤ (kd [x] : Int) := by omega
        go_wp2_with (first
          | (go_at_call 25; refine KK1.out.mono ?_; rintro e w4 ⟨rfl, b4⟩; obtain ⟨⟨c0, c1', c2, c3, c4⟩, ⟨d0, d1, d2, d3, d4⟩, fz, gz⟩ := HT.out _ (HW.out.trans (b4.mono HW.out.size))))
        have B := HB2.out _ (HW.out.trans (b4.mono HW.out.size))
        refine bodyPost_ret (v := .tuple #[.agg #[.int .i64 (kd [x]), .int .i64 p, .int .i64 (p + 1), .int .u64 0, .string ⟨#[]⟩], .int .i64 0]) (by simp [results, Tryd.results10, go_sem, World.cell?_setCell_same, World.cell?_setCell_other, c0, c1', c2, c3, c4]) rfl ?_
        rw [HOO.out]
        exact ⟨(((((((B.setCell (Nat.le_succ _) _).setCell (Nat.le_succ _) _).setCell (Nat.le_refl _) _).setCell (Nat.le_refl _) _).setCell (Nat.le_refl _) _).setCell (Nat.le_refl _) _).setCell (Nat.le_refl _) _), rfl⟩
    · cases t with
      | nil =>
        have q1 : ¬ (p : Int) + 2 ≤ n := by simp at hlen; omega
        have HOO : Hid (O = mkN x [] 1) := by show O = _; rw [HQ.out, mkN_1]
        go_wp2_with fail
        go_roundg 1
        case measure => omega
        case rel => exact ⟨1, rfl, by omega, by first | rfl | simp, HOO.out, HW.out⟩
      | cons y u =>
        rw [List.length_cons] at hlen
        have kc := KC.out 2 wr HW.out (by omega)
        rw [show (x :: y :: u).take 2 = [x, y] from rfl] at kc
        have KK1 := Lib.hid (KK.out [x, y] wr)
        have q1 : (p : Int) + 2 ≤ n := by omega
        rcases kd2_or x y HX1.out with h0 | h0
        · rw [h0] at KK1
          have HOO : Hid (O = mkN x (y :: u) 1) := by show O = _; rw [HQ.out, mkN_2 x y u HX1.out, if_neg (by omega)]
          clear h0
          go_wp2_with (first
            | (go_at_call 25; refine KK1.out.mono ?_; rintro e w4 ⟨rfl, b4⟩))
          go_roundg 1
          case measure => omega
          case rel => exact ⟨1, rfl, by omega, by first | rfl | simp, HOO.out, HW.out.trans (b4.mono HW.out.size)⟩
        · rw [h0] at KK1
          have HOO : Hid (O = .inr (21, 2, 0, [])) := by show O = _; rw [HQ.out, mkN_2 x y u HX1.out, if_pos h0]
          clear h0
          go_wp2_with (first
            | (go_at_call 25; refine KK1.out.mono ?_; rintro e w4 ⟨rfl, b4⟩; obtain ⟨⟨c0, c1', c2, c3, c4⟩, ⟨d0, d1, d2, d3, d4⟩, fz, gz⟩ := HT.out _ (HW.out.trans (b4.mono HW.out.size))))
          have B := HB2.out _ (HW.out.trans (b4.mono HW.out.size))
          refine bodyPost_ret (v := .tuple #[.agg #[.int .i64 21, .int .i64 p, .int .i64 (p + 2), .int .u64 0, .string ⟨#[]⟩], .int .i64 0]) (by simp [results, Tryd.results10, go_sem, World.cell?_setCell_same, World.cell?_setCell_other, c0, c1', c2, c3, c4]) rfl ?_
          rw [HOO.out]
          exact ⟨(((((((B.setCell (Nat.le_succ _) _).setCell (Nat.le_succ _) _).setCell (Nat.le_refl _) _).setCell (Nat.le_refl _) _).setCell (Nat.le_refl _) _).setCell (Nat.le_refl _) _).setCell (Nat.le_refl _) _), rfl⟩

theorem rone_any (b o c p : Nat) (l : Bs) (w : World) (hl : Byt w b o l) (hb : b < w.heap.size) (hp : p < l.length) (hs : l.length ≤ 65536) (hc : l.length ≤ c) :
    Calls Tryd.prog 10 #[.slice (some ⟨b, o, none⟩) l.length c, .int .i64 p] w (RO w p (one (l.drop p))) := by
  obtain ⟨x, t, hd⟩ : ∃ x t, l.drop p = x :: t := ⟨_, _, drop_cons_of hp⟩
  have e : one (l.drop p) = if dig x then numT ((x :: t).takeWhile dig) else if ltr x then wrdT ((x :: t).takeWhile wch) else if x.toNat = 34 then txtT t else mrkT (x :: t) := by rw [hd]; rfl
  rw [e]
  by_cases h1 : dig x = true
  · rw [if_pos h1, ← hd]
    exact rone_number b o c p l t x w hl hb hp hs hc hd h1
  · rw [if_neg h1]
    by_cases h2 : ltr x = true
    · rw [if_pos h2, ← hd]
      exact rone_word b o c p l t x w hl hb hp hs hc hd h2
    · rw [if_neg h2]
      by_cases h3 : x.toNat = 34
      · rw [if_pos h3]
        exact rone_text b o c p l t x w hl hb hp hs hc hd h3
      · rw [if_neg h3]
        exact rone_mark b o c p l t x w hl hb hp hs hc hd (by simpa using h2) (by simpa using h1) h3
end Go.Proofs.YtbkakdmkabhcnaaDoor
