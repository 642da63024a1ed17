/- The document's own answer: the token that begins at a place: a number; what is asked: the bytes lie in memory, at most 65536. -/
import Derived.Test.YtbkakdmkabhcnaaDoorRi
namespace Go.Proofs.YtbkakdmkabhcnaaDoor
open Go.RowKit Go.Maps

theorem u64_wrap {x : Int} (h0 : 0 ≤ x) (h1 : x ≤ 18446744073709551615) : IntKind.u64.wrap x = x := by
  simp only [IntKind.wrap, IntKind.bits, IntKind.signed]
  simp
  omega
theorem u64_some (x : Int) : ∃ u : Nat, IntKind.u64.wrap x = (u : Int) ∧ u ≤ 18446744073709551615 := by
  refine ⟨(x % 18446744073709551616).toNat, ?_, by omega⟩
  simp only [IntKind.wrap, IntKind.bits, IntKind.signed]
  simp
  omega
theorem numT_eq {D : Bs} {x : UInt8} (h : D.head? = some x) {u : Nat} {bad : Bool} (hn : Ns D [] u bad) : numT D = if bad = true ∨ (x.toNat = 48 ∧ 1 < D.length) then .inl 64 else .inr (2, D.length, u, []) := by
  have hD : D ≠ [] := by intro e; rw [e] at h; cases h
  have e48 : (D.head? = some 48) = (x.toNat = 48) := by
    rw [h]
    simp only [Option.some.injEq, eq_iff_iff]
    exact ⟨fun h => by rw [h]; rfl, fun h => UInt8.toNat_inj.1 h⟩
  unfold numT
  simp only [e48, ns_end hn hD]
  by_cases h2 : x.toNat = 48 ∧ 1 < D.length
  · rw [if_pos h2, if_pos (.inr h2)]
  · rw [if_neg h2]
    cases bad with
    | true => simp
    | false => simp [h2]
abbrev tn (w : World) (p u : Nat) : World := (tz w).alloc (.cells #[.int .i64 0, .int .i64 p, .int .i64 0, .int .u64 u, .string ⟨#[]⟩] 33)

set_option maxRecDepth 100000 in
set_option maxHeartbeats 1200000 in
theorem rone_number (b o c p : Nat) (l t : Bs) (x : UInt8) (w : World) (hl : Byt w b o l) (hb : b < w.heap.size) (hp : p < l.length) (hs : l.length ≤ 65536) (hc : l.length ≤ c) (hd : l.drop p = x :: t) (hx : dig x = true) :
    Calls Tryd.prog 10 #[.slice (some ⟨b, o, none⟩) l.length c, .int .i64 p] w (RO w p (numT ((l.drop p).takeWhile dig))) := by
  have c1 := hl p hp
  have hx0 : l[p] = x := by have := drop_cons_of hp; rw [hd] at this; exact (List.cons.inj this).1.symm
  rw [hx0] at c1
  have KL := Lib.hid (letter_any x)
  have KG := Lib.hid (rdigit_any x)
  have e1 : ltr x = false := by
    unfold dig at hx; unfold ltr
    simp only [decide_eq_true_eq] at hx
    simp only [decide_eq_false_iff_not]
    omega
  rw [e1] at KL
  rw [hx] at KG
  obtain ⟨D, hD⟩ : ∃ D, (l.drop p).takeWhile dig = D := ⟨_, rfl⟩
  have HBy : Hid (∀ u, Byt (tn w p u) b o l) := fun u => hl.below (((Below.refl w.heap.size w).alloc (Nat.le_refl _) _).alloc (by simp) _) hb
  have h1 := tw_le dig (l.drop p)
  rw [List.length_drop] at h1
  rw [hD] at h1 ⊢
  obtain ⟨O, hO⟩ : ∃ O, numT D = O := ⟨_, rfl⟩
  rw [hO]
  have HO := Lib.hid hO
  have HD := Lib.hid hD
  have HX : Hid (D.head? = some x) := by show _ = _; rw [← hD, hd, List.takeWhile_cons, if_pos hx]; rfl
  clear hx0 hO hD hd hx hl e1
  obtain ⟨n, hn⟩ : ∃ n, l.length = n := ⟨_, rfl⟩
  have HN := Lib.hid hn
  rw [hn] at hp hs hc h1 ⊢
  clear hn
  have hp' : ((p : Nat) : Int) < n := by omega
  go_enter Tryd.func10, Tryd.ntmps10
  go_wp2_with (first
    | (go_at_call 23; refine (KL.out _).mono ?_; rintro e w2 ⟨rfl, h2⟩; have h2' := h2.symm; subst h2')
    | (go_at_call 24; refine (KG.out _).mono ?_; rintro e w3 ⟨rfl, h3⟩; have h3' := h3.symm; subst h3'))
  go_loopg [7, 8] (n - p) (fun gk s7 s8 wx => ∃ (j u : Nat) (bad : Bool), p ≤ j ∧ j + gk = n ∧ s7 = .int .i64 j ∧ s8 = .bool bad ∧ u ≤ 18446744073709551615 ∧ p + D.length = j + ((l.drop j).takeWhile dig).length ∧ Ns D ((l.drop j).takeWhile dig) u bad ∧ wx = tn w p u)
  case atStart => exact ⟨p, 0, false, Nat.le_refl _, by omega, rfl, rfl, Nat.zero_le _, by rw [HD.out], by rw [HD.out]; exact ns_start D, rfl⟩
  case round =>
    obtain ⟨j, u, bad, hpj, hjg, rfl, rfl, hu, hq, hns, rfl⟩ := hrel
    have HQ := Lib.hid hq
    have HS := Lib.hid hns
    clear hq hns KL KG
    cases gk with
    | zero =>
      obtain rfl : j = n := by omega
      have he : (l.drop j).takeWhile dig = [] := by rw [List.drop_eq_nil_of_le (Nat.le_of_eq HN.out)]; rfl
      have HJ : Hid (p + D.length = j) := by show _ = _; rw [HQ.out, he]; rfl
      have HS2 : Hid (Ns D [] u bad) := by show Ns _ _ _ _; rw [← he]; exact HS.out
      clear HQ HS he
      have hJ := HJ.out
      have hjp : (p : Int) ≤ (j : Int) := by omega
      have HE := Lib.hid (numT_eq HX.out HS2.out)
      cases bad with
      | true =>
        have HOO : Hid (O = .inl 64) := by show O = _; rw [← HO.out, HE.out, if_pos (.inl rfl)]
        go_wp2_with fail
        refine bodyPost_ret (v := .tuple #[.agg #[.int .i64 2, .int .i64 p, .int .i64 j, .int .u64 u, .string ⟨#[]⟩], .int .i64 64]) (by simp [results, Tryd.results10, go_sem]) rfl ?_
        rw [HOO.out]
        exact ⟨((Below.refl w.heap.size w).alloc (Nat.le_refl _) _).alloc (by simp) _, _, _, _, _, _, rfl⟩
      | false =>
        by_cases h48 : x.toNat = 48
        · have q1 : ((x.toNat : Int) == 48) = true := by simp [h48]
          by_cases hl1 : 1 < D.length
          · have q2 : 1 < (j : Int) - p := by omega
            have HOO : Hid (O = .inl 64) := by show O = _; rw [← HO.out, HE.out, if_pos (.inr ⟨h48, hl1⟩)]
            clear h48
            go_wp2_with fail
            refine bodyPost_ret (v := .tuple #[.agg #[.int .i64 2, .int .i64 p, .int .i64 j, .int .u64 u, .string ⟨#[]⟩], .int .i64 64]) (by simp [results, Tryd.results10, go_sem]) rfl ?_
            rw [HOO.out]
            exact ⟨((Below.refl w.heap.size w).alloc (Nat.le_refl _) _).alloc (by simp) _, _, _, _, _, _, rfl⟩
          · have q2 : ¬ 1 < (j : Int) - p := by omega
            have HOO : Hid (O = .inr (2, D.length, u, [])) := by show O = _; rw [← HO.out, HE.out, if_neg (by simp [hl1])]
            clear h48
            go_wp2_with fail
            refine bodyPost_ret (v := .tuple #[.agg #[.int .i64 2, .int .i64 p, .int .i64 j, .int .u64 u, .string ⟨#[]⟩], .int .i64 0]) (by simp [results, Tryd.results10, go_sem]) rfl ?_
            rw [HOO.out, ← hJ]
            exact ⟨((Below.refl w.heap.size w).alloc (Nat.le_refl _) _).alloc (by simp) _, rfl⟩
        · have q1 : ((x.toNat : Int) == 48) = false := by simp; omega
          have HOO : Hid (O = .inr (2, D.length, u, [])) := by show O = _; rw [← HO.out, HE.out, if_neg (by simp [h48])]
          go_wp2_with fail
          refine bodyPost_ret (v := .tuple #[.agg #[.int .i64 2, .int .i64 p, .int .i64 j, .int .u64 u, .string ⟨#[]⟩], .int .i64 0]) (by simp [results, Tryd.results10, go_sem]) rfl ?_
          rw [HOO.out, ← hJ]
          exact ⟨((Below.refl w.heap.size w).alloc (Nat.le_refl _) _).alloc (by simp) _, rfl⟩
    | succ gq =>
      have hj : j < l.length := by have := HN.out; omega
      have hj' : ((j : Nat) : Int) < n := by omega
      have c2 := (HBy.out u) j hj
      have HDj := Lib.hid (drop_cons_of hj)
      generalize l[j] = y at c2 HDj
      have KD := Lib.hid (rdigit_any y)
      by_cases hw : dig y = true
      · rw [hw] at KD
        have hyy : 48 ≤ y.toNat ∧ y.toNat ≤ 57 := by unfold dig at hw; simpa using hw
        go_wp2_with (first
          | (go_at_call 24; refine (KD.out _).mono ?_; rintro e w3 ⟨rfl, h3⟩; have h3' := h3.symm; subst h3'))
        · rename_i hov
          obtain ⟨u2, e2, hu2⟩ := u64_some (IntKind.u64.wrap ((u : Int) * 10) + ((y.toNat : Int) - 48))
          rw [e2]
          go_roundg gq
          case measure => omega
          case rel =>
            refine ⟨j + 1, u2, true, by omega, by omega, by first | rfl | simp, rfl, hu2, by rw [HQ.out, HDj.out, List.takeWhile_cons, if_pos hw, List.length_cons]; omega, ?_, rfl⟩
            have h := HS.out
            rw [HDj.out, List.takeWhile_cons, if_pos hw] at h
            exact ns_over h hw (by omega)
        · rename_i hov
          cases bad with
          | true =>
            have e2 : ((u : Int) * 10 + ((y.toNat : Int) - 48)) = ((u * 10 + (y.toNat - 48) : Nat) : Int) := by omega
            rw [e2]
            go_roundg gq
            case measure => omega
            case rel => exact ⟨j + 1, u * 10 + (y.toNat - 48), true, by omega, by omega, by first | rfl | simp, rfl, by omega, by rw [HQ.out, HDj.out, List.takeWhile_cons, if_pos hw, List.length_cons]; omega, ns_bad HS.out, rfl⟩
          | false =>
            have h := HS.out
            rw [HDj.out, List.takeWhile_cons, if_pos hw] at h
            obtain ⟨g1, g2⟩ := ns_step h hw (by omega)
            have e2 : ((u : Int) * 10 + ((y.toNat : Int) - 48)) = ((u * 10 + (y.toNat - 48) : Nat) : Int) := by omega
            rw [e2]
            go_roundg gq
            case measure => omega
            case rel => exact ⟨j + 1, u * 10 + (y.toNat - 48), false, by omega, by omega, by first | rfl | simp, rfl, g2, by rw [HQ.out, HDj.out, List.takeWhile_cons, if_pos hw, List.length_cons]; omega, g1, rfl⟩
      · have hdy : dig y = false := by simpa using hw
        rw [hdy] at KD
        have he : (l.drop j).takeWhile dig = [] := by rw [HDj.out, List.takeWhile_cons, if_neg hw]
        have HJ : Hid (p + D.length = j) := by show _ = _; rw [HQ.out, he]; rfl
        have HS2 : Hid (Ns D [] u bad) := by show Ns _ _ _ _; rw [← he]; exact HS.out
        clear HQ HS he
        have hJ := HJ.out
        have hjp : (p : Int) ≤ (j : Int) := by omega
        have HE := Lib.hid (numT_eq HX.out HS2.out)
        cases bad with
        | true =>
          have HOO : Hid (O = .inl 64) := by show O = _; rw [← HO.out, HE.out, if_pos (.inl rfl)]
          go_wp2_with (first | (go_at_call 24; refine (KD.out _).mono ?_; rintro e w3 ⟨rfl, h3⟩; have h3' := h3.symm; subst h3'))
          refine bodyPost_ret (v := .tuple #[.agg #[.int .i64 2, .int .i64 p, .int .i64 j, .int .u64 u, .string ⟨#[]⟩], .int .i64 64]) (by simp [results, Tryd.results10, go_sem]) rfl ?_
          rw [HOO.out]
          exact ⟨((Below.refl w.heap.size w).alloc (Nat.le_refl _) _).alloc (by simp) _, _, _, _, _, _, rfl⟩
        | false =>
          by_cases h48 : x.toNat = 48
          · have q1 : ((x.toNat : Int) == 48) = true := by simp [h48]
            by_cases hl1 : 1 < D.length
            · have q2 : 1 < (j : Int) - p := by omega
              have HOO : Hid (O = .inl 64) := by show O = _; rw [← HO.out, HE.out, if_pos (.inr ⟨h48, hl1⟩)]
              clear h48
              go_wp2_with (first | (go_at_call 24; refine (KD.out _).mono ?_; rintro e w3 ⟨rfl, h3⟩; have h3' := h3.symm; subst h3'))
              refine bodyPost_ret (v := .tuple #[.agg #[.int .i64 2, .int .i64 p, .int .i64 j, .int .u64 u, .string ⟨#[]⟩], .int .i64 64]) (by simp [results, Tryd.results10, go_sem]) rfl ?_
              rw [HOO.out]
              exact ⟨((Below.refl w.heap.size w).alloc (Nat.le_refl _) _).alloc (by simp) _, _, _, _, _, _, rfl⟩
            · have q2 : ¬ 1 < (j : Int) - p := by omega
              have HOO : Hid (O = .inr (2, D.length, u, [])) := by show O = _; rw [← HO.out, HE.out, if_neg (by simp [hl1])]
              clear h48
              go_wp2_with (first | (go_at_call 24; refine (KD.out _).mono ?_; rintro e w3 ⟨rfl, h3⟩; have h3' := h3.symm; subst h3'))
              refine bodyPost_ret (v := .tuple #[.agg #[.int .i64 2, .int .i64 p, .int .i64 j, .int .u64 u, .string ⟨#[]⟩], .int .i64 0]) (by simp [results, Tryd.results10, go_sem]) rfl ?_
              rw [HOO.out, ← hJ]
              exact ⟨((Below.refl w.heap.size w).alloc (Nat.le_refl _) _).alloc (by simp) _, rfl⟩
          · have q1 : ((x.toNat : Int) == 48) = false := by simp; omega
            have HOO : Hid (O = .inr (2, D.length, u, [])) := by show O = _; rw [← HO.out, HE.out, if_neg (by simp [h48])]
            go_wp2_with (first | (go_at_call 24; refine (KD.out _).mono ?_; rintro e w3 ⟨rfl, h3⟩; have h3' := h3.symm; subst h3'))
            refine bodyPost_ret (v := .tuple #[.agg #[.int .i64 2, .int .i64 p, .int .i64 j, .int .u64 u, .string ⟨#[]⟩], .int .i64 0]) (by simp [results, Tryd.results10, go_sem]) rfl ?_
            rw [HOO.out, ← hJ]
            exact ⟨((Below.refl w.heap.size w).alloc (Nat.le_refl _) _).alloc (by simp) _, rfl⟩
end Go.Proofs.YtbkakdmkabhcnaaDoor
