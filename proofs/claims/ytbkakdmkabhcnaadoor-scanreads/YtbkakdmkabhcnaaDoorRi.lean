/- The document's own answer: the token that begins at a place: a word; what is asked: the bytes lie in memory, at most 65536. -/
import Derived.Test.YtbkakdmkabhcnaaDoorRh
import Derived.Test.YtbkakdmkabhcnaaDoorSr
namespace Go.Proofs.YtbkakdmkabhcnaaDoor
open Go.RowKit Go.Maps

theorem kdF_mem : ∀ (L : List Bs) (k : Nat) (s : Bs), kdF L k s ≠ 0 → s ∈ L
  | [], _, _, h => absurd rfl h
  | x :: r, k, s, h => by
    unfold kdF at h
    split at h
    · rename_i e; rw [e]; exact List.mem_cons_self
    · exact List.mem_cons_of_mem _ (kdF_mem r _ s h)
theorem kd_len (d : Bs) (h : kd d ≠ 0) : d.length ≤ 7 := by
  have h2 := kdF_mem _ _ _ h
  have : ∀ x ∈ spl.drop 4, x.length ≤ 7 := by decide
  exact this d h2
abbrev tq (w : World) (p j : Nat) : World := (tz w).alloc (.cells #[.int .i64 0, .int .i64 p, .int .i64 j, .int .u64 0, .string ⟨#[]⟩] 33)
theorem t5_tq (w : World) (p j : Nat) (W : World) (h : Below (tq w p j).heap.size (tq w p j) W) :
    (W.cell? ⟨w.heap.size, 0, none⟩ = some (.int .i64 0) ∧ W.cell? ⟨w.heap.size, 1, none⟩ = some (.int .i64 0) ∧ W.cell? ⟨w.heap.size, 2, none⟩ = some (.int .i64 0) ∧ W.cell? ⟨w.heap.size, 3, none⟩ = some (.int .u64 0) ∧ W.cell? ⟨w.heap.size, 4, none⟩ = some (.string ⟨#[]⟩)) ∧
    (W.cell? ⟨w.heap.size + 1, 0, none⟩ = some (.int .i64 0) ∧ W.cell? ⟨w.heap.size + 1, 1, none⟩ = some (.int .i64 p) ∧ W.cell? ⟨w.heap.size + 1, 2, none⟩ = some (.int .i64 j) ∧ W.cell? ⟨w.heap.size + 1, 3, none⟩ = some (.int .u64 0) ∧ W.cell? ⟨w.heap.size + 1, 4, none⟩ = some (.string ⟨#[]⟩)) ∧
    (∀ o, W.frozen? ⟨w.heap.size, o, none⟩ = false) ∧ (∀ o, W.frozen? ⟨w.heap.size + 1, o, none⟩ = false) := by
  have e : (tz w).heap.size = w.heap.size + 1 := by simp
  have h2 : T5 (tq w p j) (w.heap.size + 1) (.int .i64 0) (.int .i64 p) (.int .i64 j) (.int .u64 0) (.string ⟨#[]⟩) := by rw [← e]; exact heap_alloc_new (tz w) _
  have h1 : T5 (tq w p j) w.heap.size (.int .i64 0) (.int .i64 0) (.int .i64 0) (.int .u64 0) (.string ⟨#[]⟩) := (T5.new w).below (below1 (tz w) _) (by simp)
  have g1 := h1.below h (by simp; omega)
  have g2 := h2.below h (by simp)
  exact ⟨g1.c, g2.c, fun o => g1.f, fun o => g2.f⟩
abbrev tp (w : World) (p : Nat) : World := (tz w).alloc (.cells #[.int .i64 0, .int .i64 p, .int .i64 0, .int .u64 0, .string ⟨#[]⟩] 33)

set_option maxRecDepth 100000 in
set_option maxHeartbeats 1200000 in
theorem rone_word (b o c p : Nat) (l t : Bs) (x : UInt8) (w : World) (hl : Byt w b o l) (hb : b < w.heap.size) (hp : p < l.length) (hs : l.length ≤ 65536) (hc : l.length ≤ c) (hd : l.drop p = x :: t) (hx : ltr x = true) :
    Calls Tryd.prog 10 #[.slice (some ⟨b, o, none⟩) l.length c, .int .i64 p] w (RO w p (wrdT ((l.drop p).takeWhile wch))) := by
  have c1 := hl p hp
  have hx0 : l[p] = x := by have := drop_cons_of hp; rw [hd] at this; exact (List.cons.inj this).1.symm
  rw [hx0] at c1
  have KL := Lib.hid (letter_any x)
  rw [hx] at KL
  have B0 := Lib.hid (((Below.refl w.heap.size w).alloc (Nat.le_refl _) (.cells #[.int .i64 0, .int .i64 0, .int .i64 0, .int .u64 0, .string ⟨#[]⟩] 33)).alloc (by simp) (.cells #[.int .i64 0, .int .i64 p, .int .i64 0, .int .u64 0, .string ⟨#[]⟩] 33))
  have HBy := Lib.hid (hl.below B0.out hb)
  have h1 := tw_le wch (l.drop p)
  rw [List.length_drop] at h1
  obtain ⟨D, hD⟩ : ∃ D, (l.drop p).takeWhile wch = D := ⟨_, rfl⟩
  rw [hD] at h1 ⊢
  obtain ⟨O, hO⟩ : ∃ O, wrdT D = O := ⟨_, rfl⟩
  rw [hO]
  have HO := Lib.hid hO
  have HD := Lib.hid hD
  have KC : Hid (∀ j, p + D.length = j → (convert 22 9 (.slice (some ⟨b, o + p, none⟩) (j - p) (c - p))).run Tryd.prog (tq w p j) = .ok (.string (bs D)) (tq w p j)) := fun j h => by
    have e : Byt (tq w p j) b o l := hl.below (((Below.refl w.heap.size w).alloc (Nat.le_refl _) _).alloc (by simp) _) hb
    have k := conv_win e p D.length (c - p) (by omega)
    rw [← hD, take_tw, hD] at k
    rw [show j - p = D.length by omega]
    exact k
  have KK : Hid (∀ W, Calls Tryd.prog 25 #[.string (bs D)] W fun e w' => e = .returned (.int .i64 (kd D)) ∧ Below W.heap.size W w') := fun W => by have := rkind_any (bs D) W; rwa [tl_bs] at this
  have HT := Lib.hid (fun j W h => t5_tq w p j W h)
  have HB2 : Hid (∀ j, Below w.heap.size w (tq w p j)) := fun j => ((Below.refl w.heap.size w).alloc (Nat.le_refl _) _).alloc (by simp) _
  have HK := Lib.hid (kd_len D)
  clear hx0 hO hD hd hx hl
  obtain ⟨n, hn⟩ : ∃ n, l.length = n := ⟨_, rfl⟩
  have HN := Lib.hid hn
  rw [hn] at hp hs hc h1 ⊢
  clear hn
  have hp' : ((p : Nat) : Int) < n := by omega
  go_enter Tryd.func10, Tryd.ntmps10
  go_wp2_with (first
    | (go_at_call 23; refine (KL.out _).mono ?_; rintro e w2 ⟨rfl, h2⟩; have h2' := h2.symm; subst h2'))
  go_loopg [7] (n - p) (fun gk s7 wx => ∃ j : Nat, p ≤ j ∧ j + gk = n ∧ s7 = .int .i64 j ∧ p + D.length = j + ((l.drop j).takeWhile wch).length ∧ wx = tp w p)
  case atStart => exact ⟨p, Nat.le_refl _, by omega, rfl, by rw [HD.out], rfl⟩
  case round =>
    obtain ⟨j, hpj, hjg, rfl, hq, rfl⟩ := hrel
    have HQ := Lib.hid hq
    clear hq c1 KL
    cases gk with
    | zero =>
      obtain rfl : j = n := by omega
      have HJ : Hid (p + D.length = j) := by show _ = _; rw [HQ.out, List.drop_eq_nil_of_le (Nat.le_of_eq HN.out)]; rfl
      clear HQ
      have kc := KC.out j HJ.out
      have hJ := HJ.out
      have hjp : (p : Int) ≤ (j : Int) := by omega
      by_cases hk : kd D = 0
      · have q1 : ((kd D : Int) == 0) = true := by simp [hk]
        have HKD := Lib.hid hk
        clear hk
        by_cases h32 : 32 < D.length
        · have q2 : 32 < (j : Int) - p := by omega
          have HO1 : Hid (O = .inl 63) := by show O = _; rw [← HO.out, wrdT, if_pos h32]
          go_wp2_with (first
            | (go_at_call 25; refine (KK.out _).mono ?_; rintro e w4 ⟨rfl, b4⟩; obtain ⟨⟨c0, c1, c2, c3, c4⟩, ⟨d0, d1, d2, d3, d4⟩, fz, gz⟩ := HT.out _ w4 b4))
          have B := (HB2.out _).trans (b4.mono (by simp; omega))
          refine bodyPost_ret (v := .tuple #[.agg #[.int .i64 1, .int .i64 p, .int .i64 j, .int .u64 0, .string ⟨#[]⟩], .int .i64 63]) (by simp [results, Tryd.results10, go_sem, World.cell?_setCell_same, World.cell?_setCell_other, c0, c1, c2, c3, c4]) rfl ?_
          rw [HO1.out]
          exact ⟨(((((((B.setCell (Nat.le_succ _) _).setCell (Nat.le_succ _) _).setCell (Nat.le_refl _) _).setCell (Nat.le_refl _) _).setCell (Nat.le_refl _) _).setCell (Nat.le_refl _) _).setCell (Nat.le_refl _) _), _, _, _, _, _, rfl⟩
        · have q2 : ¬ 32 < (j : Int) - p := by omega
          have HO1 : Hid (O = .inr (1, D.length, 0, [])) := by show O = _; rw [← HO.out, wrdT, if_neg h32, if_pos HKD.out]
          go_wp2_with (first
            | (go_at_call 25; refine (KK.out _).mono ?_; rintro e w4 ⟨rfl, b4⟩; obtain ⟨⟨c0, c1, c2, c3, c4⟩, ⟨d0, d1, d2, d3, d4⟩, fz, gz⟩ := HT.out _ w4 b4))
          have B := (HB2.out _).trans (b4.mono (by simp; omega))
          refine bodyPost_ret (v := .tuple #[.agg #[.int .i64 1, .int .i64 p, .int .i64 j, .int .u64 0, .string ⟨#[]⟩], .int .i64 0]) (by simp [results, Tryd.results10, go_sem, World.cell?_setCell_same, World.cell?_setCell_other, c0, c1, c2, c3, c4]) rfl ?_
          rw [HO1.out, ← hJ]
          exact ⟨(((((((B.setCell (Nat.le_succ _) _).setCell (Nat.le_succ _) _).setCell (Nat.le_refl _) _).setCell (Nat.le_refl _) _).setCell (Nat.le_refl _) _).setCell (Nat.le_refl _) _).setCell (Nat.le_refl _) _), rfl⟩
      · have q1 : ((kd D : Int) == 0) = false := by simp [hk]
        have h7 := HK.out hk
        have HO1 : Hid (O = .inr ((kd D), D.length, 0, [])) := by show O = _; rw [← HO.out, wrdT, if_neg (by omega), if_neg hk]
        go_wp2_with (first
          | (go_at_call 25; refine (KK.out _).mono ?_; rintro e w4 ⟨rfl, b4⟩; obtain ⟨⟨c0, c1, c2, c3, c4⟩, ⟨d0, d1, d2, d3, d4⟩, fz, gz⟩ := HT.out _ w4 b4))
        have B := (HB2.out _).trans (b4.mono (by simp; omega))
        refine bodyPost_ret (v := .tuple #[.agg #[.int .i64 (kd D), .int .i64 p, .int .i64 j, .int .u64 0, .string ⟨#[]⟩], .int .i64 0]) (by simp [results, Tryd.results10, go_sem, World.cell?_setCell_same, World.cell?_setCell_other, c0, c1, c2, c3, c4]) rfl ?_
        rw [HO1.out, ← hJ]
        exact ⟨((((((B.setCell (Nat.le_succ _) _).setCell (Nat.le_refl _) _).setCell (Nat.le_refl _) _).setCell (Nat.le_refl _) _).setCell (Nat.le_refl _) _).setCell (Nat.le_refl _) _), rfl⟩
    | succ gq =>
      have hj : j < l.length := by have := HN.out; omega
      have hj' : ((j : Nat) : Int) < n := by omega
      have c2 := HBy.out j hj
      have HDj := Lib.hid (drop_cons_of hj)
      generalize l[j] = y at c2 HDj
      have KA := Lib.hid (letter_any y)
      have KD := Lib.hid (rdigit_any y)
      by_cases hw : wch y = true
      · by_cases hy : ltr y = true
        · rw [hy] at KA
          go_wp2_with (first
            | (go_at_call 23; refine (KA.out _).mono ?_; rintro e w2 ⟨rfl, h2⟩; have h2' := h2.symm; subst h2'))
          go_roundg gq
          case measure => omega
          case rel => exact ⟨j + 1, by omega, by omega, by first | rfl | simp, by rw [HQ.out, HDj.out, List.takeWhile_cons, if_pos hw, List.length_cons]; omega, rfl⟩
        · have hy' : ltr y = false := by simpa using hy
          have hdy : dig y = true := by rw [wch, hy', Bool.or_false] at hw; exact hw
          rw [hy'] at KA
          rw [hdy] at KD
          go_wp2_with (first
            | (go_at_call 23; refine (KA.out _).mono ?_; rintro e w2 ⟨rfl, h2⟩; have h2' := h2.symm; subst h2')
            | (go_at_call 24; refine (KD.out _).mono ?_; rintro e w3 ⟨rfl, h3⟩; have h3' := h3.symm; subst h3'))
          go_roundg gq
          case measure => omega
          case rel => exact ⟨j + 1, by omega, by omega, by first | rfl | simp, by rw [HQ.out, HDj.out, List.takeWhile_cons, if_pos hw, List.length_cons]; omega, rfl⟩
      · have hy' : ltr y = false := by cases h : ltr y with | false => rfl | true => exact absurd (by simp [wch, h]) hw
        have hdy : dig y = false := by cases h : dig y with | false => rfl | true => exact absurd (by simp [wch, h]) hw
        rw [hy'] at KA
        rw [hdy] at KD
        have HJ : Hid (p + D.length = j) := by show _ = _; rw [HQ.out, HDj.out, List.takeWhile_cons, if_neg hw]; rfl
        clear HQ
        have kc := KC.out j HJ.out
        have hJ := HJ.out
        have hjp : (p : Int) ≤ (j : Int) := by omega
        by_cases hk : kd D = 0
        · have q1 : ((kd D : Int) == 0) = true := by simp [hk]
          have HKD := Lib.hid hk
          clear hk
          by_cases h32 : 32 < D.length
          · have q2 : 32 < (j : Int) - p := by omega
            have HO1 : Hid (O = .inl 63) := by show O = _; rw [← HO.out, wrdT, if_pos h32]
            go_wp2_with (first
              | (go_at_call 23; refine (KA.out _).mono ?_; rintro e w2 ⟨rfl, h2⟩; have h2' := h2.symm; subst h2')
              | (go_at_call 24; refine (KD.out _).mono ?_; rintro e w3 ⟨rfl, h3⟩; have h3' := h3.symm; subst h3')
              | (go_at_call 25; refine (KK.out _).mono ?_; rintro e w4 ⟨rfl, b4⟩; obtain ⟨⟨c0, c1, c2, c3, c4⟩, ⟨d0, d1, d2, d3, d4⟩, fz, gz⟩ := HT.out _ w4 b4))
            have B := (HB2.out _).trans (b4.mono (by simp; omega))
            refine bodyPost_ret (v := .tuple #[.agg #[.int .i64 1, .int .i64 p, .int .i64 j, .int .u64 0, .string ⟨#[]⟩], .int .i64 63]) (by simp [results, Tryd.results10, go_sem, World.cell?_setCell_same, World.cell?_setCell_other, c0, c1, c2, c3, c4]) rfl ?_
            rw [HO1.out]
            exact ⟨(((((((B.setCell (Nat.le_succ _) _).setCell (Nat.le_succ _) _).setCell (Nat.le_refl _) _).setCell (Nat.le_refl _) _).setCell (Nat.le_refl _) _).setCell (Nat.le_refl _) _).setCell (Nat.le_refl _) _), _, _, _, _, _, rfl⟩
          · have q2 : ¬ 32 < (j : Int) - p := by omega
            have HO1 : Hid (O = .inr (1, D.length, 0, [])) := by show O = _; rw [← HO.out, wrdT, if_neg h32, if_pos HKD.out]
            go_wp2_with (first
              | (go_at_call 23; refine (KA.out _).mono ?_; rintro e w2 ⟨rfl, h2⟩; have h2' := h2.symm; subst h2')
              | (go_at_call 24; refine (KD.out _).mono ?_; rintro e w3 ⟨rfl, h3⟩; have h3' := h3.symm; subst h3')
              | (go_at_call 25; refine (KK.out _).mono ?_; rintro e w4 ⟨rfl, b4⟩; obtain ⟨⟨c0, c1, c2, c3, c4⟩, ⟨d0, d1, d2, d3, d4⟩, fz, gz⟩ := HT.out _ w4 b4))
            have B := (HB2.out _).trans (b4.mono (by simp; omega))
            refine bodyPost_ret (v := .tuple #[.agg #[.int .i64 1, .int .i64 p, .int .i64 j, .int .u64 0, .string ⟨#[]⟩], .int .i64 0]) (by simp [results, Tryd.results10, go_sem, World.cell?_setCell_same, World.cell?_setCell_other, c0, c1, c2, c3, c4]) rfl ?_
            rw [HO1.out, ← hJ]
            exact ⟨(((((((B.setCell (Nat.le_succ _) _).setCell (Nat.le_succ _) _).setCell (Nat.le_refl _) _).setCell (Nat.le_refl _) _).setCell (Nat.le_refl _) _).setCell (Nat.le_refl _) _).setCell (Nat.le_refl _) _), rfl⟩
        · have q1 : ((kd D : Int) == 0) = false := by simp [hk]
          have h7 := HK.out hk
          have HO1 : Hid (O = .inr ((kd D), D.length, 0, [])) := by show O = _; rw [← HO.out, wrdT, if_neg (by omega), if_neg hk]
          go_wp2_with (first
            | (go_at_call 23; refine (KA.out _).mono ?_; rintro e w2 ⟨rfl, h2⟩; have h2' := h2.symm; subst h2')
            | (go_at_call 24; refine (KD.out _).mono ?_; rintro e w3 ⟨rfl, h3⟩; have h3' := h3.symm; subst h3')
            | (go_at_call 25; refine (KK.out _).mono ?_; rintro e w4 ⟨rfl, b4⟩; obtain ⟨⟨c0, c1, c2, c3, c4⟩, ⟨d0, d1, d2, d3, d4⟩, fz, gz⟩ := HT.out _ w4 b4))
          have B := (HB2.out _).trans (b4.mono (by simp; omega))
          refine bodyPost_ret (v := .tuple #[.agg #[.int .i64 (kd D), .int .i64 p, .int .i64 j, .int .u64 0, .string ⟨#[]⟩], .int .i64 0]) (by simp [results, Tryd.results10, go_sem, World.cell?_setCell_same, World.cell?_setCell_other, c0, c1, c2, c3, c4]) rfl ?_
          rw [HO1.out, ← hJ]
          exact ⟨((((((B.setCell (Nat.le_succ _) _).setCell (Nat.le_refl _) _).setCell (Nat.le_refl _) _).setCell (Nat.le_refl _) _).setCell (Nat.le_refl _) _).setCell (Nat.le_refl _) _), rfl⟩
end Go.Proofs.YtbkakdmkabhcnaaDoor
