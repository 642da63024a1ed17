/- The document's own answer: Scan at every text; what is asked: the bytes lie in memory. -/
import Derived.Test.YtbkakdmkabhcnaaDoorRk
import Derived.Test.YtbkakdmkabhcnaaDoorSm
namespace Go.Proofs.YtbkakdmkabhcnaaDoor
open Go.RowKit Go.Maps

/-- What the reference's Scan leaves. -/
def SR (w : World) (R : Res) (e : Ending) (w' : World) : Prop := Below w.heap.size w w' ∧ match R with
  | .inl (p, er) => e = .returned (.tuple #[.slice none 0 0, .int .i64 p, .int .i64 er])
  | .inr l => ∃ v, e = .returned (.tuple #[v, .int .i64 0, .int .i64 0]) ∧ Toks w' w.heap.size v l

set_option maxRecDepth 100000 in
set_option maxHeartbeats 8000000 in
theorem rscan_any (b o c : Nat) (l : Bs) (w : World) (hl : Byt w b o l) (hb : b < w.heap.size) (hs : l.length ≤ 65536) (hc : l.length ≤ c) :
    Calls Tryd.prog 5 #[.slice (some ⟨b, o, none⟩) l.length c] w (SR w (ans l 0 [])) := by
  obtain ⟨i0, hi0, hz0, hz1, hz2⟩ := info_parts infoTok
  obtain ⟨n, hn⟩ : ∃ n, l.length = n := ⟨_, rfl⟩
  have HN := Lib.hid hn
  have KG : Hid (∀ (j : Nat) (W : World), j < n → Below w.heap.size w W → Calls Tryd.prog 9 #[.slice (some ⟨b, o, none⟩) n c, .int .i64 j] W fun e w' => e = .returned (.int .i64 (rsk j (skip (l.drop j)))) ∧ w' = W) := fun j W hj hW => by
    have := rskip_any b o c j l W (hl.below hW hb) (by omega) hs
    rwa [hn] at this
  have KN : Hid (∀ (j : Nat) (W : World), j < n → Below w.heap.size w W → Calls Tryd.prog 10 #[.slice (some ⟨b, o, none⟩) n c, .int .i64 j] W (RO W j (one (l.drop j)))) := fun j W hj hW => by
    have := rone_any b o c j l W (hl.below hW hb) (Nat.lt_of_lt_of_le hb hW.size) (by omega) hs hc
    rwa [hn] at this
  rw [hn] at hs hc ⊢
  obtain ⟨R, hR⟩ : ∃ R, ans l 0 [] = R := ⟨_, rfl⟩
  rw [hR]
  have HR := Lib.hid hR
  clear hl hb hn hR
  have hn0 : (n : Int) ≤ 65536 := by omega
  go_enter Tryd.func5, Tryd.ntmps5
  go_wp2_with fail
  go_loopg [5, 6] n (fun gk s5 s6 wx => ∃ (j : Nat) (a : Option Addr) (cp : Nat) (acc : List Tok), j ≤ n ∧ gk = n - j ∧ s6 = .int .i64 j ∧ s5 = .slice a acc.length cp ∧ Toks wx w.heap.size s5 acc ∧ acc.length ≤ 16384 ∧ R = ans (l.drop j) j acc ∧ Below w.heap.size w wx)
  case atStart => exact ⟨0, none, 0, [], Nat.zero_le _, rfl, rfl, rfl, World.ownsRow_nil _ _ _ _, by simp, HR.out.symm, Below.refl _ _⟩
  case round =>
    obtain ⟨j, a, cp, acc, hjn, rfl, rfl, rfl, ho, hal, hq, hbw⟩ := hrel
    have HQ := Lib.hid hq
    have HW := Lib.hid hbw
    have HO := Lib.hid ho
    have hz3 := hbw.size
    clear hq hbw ho HR
    by_cases hjn2 : j = n
    · subst hjn2
      have HRR : Hid (R = .inr acc) := by
        show R = .inr acc
        rw [HQ.out, List.drop_eq_nil_of_le (Nat.le_of_eq HN.out)]; rfl
      go_wp2_with fail
      go_ret3
      refine ⟨HW.out, ?_⟩
      rw [HRR.out]
      exact ⟨_, rfl, HO.out⟩
    · have hj4 : j < n := by omega
      have hj5 : (j : Int) < n := by omega
      have hdn : l.drop j ≠ [] := by intro h; have := congrArg List.length h; rw [List.length_drop, HN.out] at this; simp at this; omega
      have HDN := Lib.hid hdn
      have KJ := Lib.hid (KG.out j wr hj4 HW.out)
      clear hdn
      cases hS : skip (l.drop j) with
      | none =>
        rw [hS] at KJ
        have HRR : Hid (R = .inl (j, 62)) := by show R = _; rw [HQ.out, ans_gap hS]
        rw [show rsk j none = -1 from rfl] at KJ
        clear hS
        go_wp2_with (first
          | (go_at_call 9; refine KJ.out.mono ?_; rintro e w2 ⟨rfl, h2⟩; have h2' := h2.symm; subst h2'))
        go_ret3
        refine ⟨HW.out, ?_⟩
        rw [HRR.out]; try rfl
      | some k =>
        rw [hS] at KJ
        rw [show rsk j (some k) = ((j + k : Nat) : Int) from rfl] at KJ
        have hk := skip_le _ _ hS
        rw [List.length_drop, HN.out] at hk
        cases k with
        | succ k =>
          have HRR : Hid (R = ans (l.drop (j + (k + 1))) (j + (k + 1)) acc) := by show R = _; rw [HQ.out, ans_skip hS, List.drop_drop]
          obtain ⟨m, hm⟩ : ∃ m, j + (k + 1) = m := ⟨_, rfl⟩
          rw [hm] at KJ HRR
          have g1 : ¬ (m : Int) < 0 := by omega
          have g2 : (j : Int) < (m : Int) := by omega
          have hm3 : m ≤ n := by omega
          have hm4 : j < m := by omega
          clear hS hm hk
          go_wp2_with (first
            | (go_at_call 9; refine KJ.out.mono ?_; rintro e w2 ⟨rfl, h2⟩; have h2' := h2.symm; subst h2'))
          go_roundg (n - m)
          case measure => omega
          case rel => exact ⟨m, a, cp, acc, hm3, rfl, rfl, rfl, HO.out, hal, HRR.out, HW.out⟩
        | zero =>
          have HSK := Lib.hid hS
          clear hS hk
          rw [Nat.add_zero] at KJ
          have KK := Lib.hid (KN.out j wr hj4 HW.out)
          clear KN KG
          cases hO : one (l.drop j) with
          | inl er =>
            rw [hO] at KK
            have her := one_bad hO
            have HA : Hid (R = .inl (j, (if acc.length = 16384 ∧ er ≠ 61 then 66 else er))) := by
              show R = _
              rw [HQ.out, ans_bad HDN.out HSK.out hO]
            have KK2 : Hid (Calls Tryd.prog 10 #[.slice (some ⟨b, o, none⟩) n c, .int .i64 j] wr fun e w' => Below wr.heap.size wr w' ∧ ∃ (A B C D : Int) (S : ByteArray), e = .returned (.tuple #[.agg #[.int .i64 A, .int .i64 B, .int .i64 C, .int .u64 D, .string S], .int .i64 er])) := KK.out
            clear KK hO
            by_cases h61 : er = 61
            · subst h61
              have HRR : Hid (R = .inl (j, 61)) := by show R = _; rw [HA.out, if_neg (by simp)]
              go_wp2_with (first
                | (go_at_call 9; refine KJ.out.mono ?_; rintro e w2 ⟨rfl, h2⟩; have h2' := h2.symm; subst h2')
                | (go_at_call 10; refine KK2.out.mono ?_; rintro e w3 ⟨b3, A, B, C, D, S, rfl⟩))
              go_ret3
              refine ⟨(HW.out.trans (b3.mono HW.out.size)).alloc (Nat.le_trans hz3 b3.size) _, ?_⟩
              rw [HRR.out]; try rfl
            · have q1 : ((er : Int) == 61) = false := by simp; omega
              by_cases hfull : acc.length = 16384
              · have q2 : ((acc.length : Int) == 16384) = true := by simp; omega
                have HRR : Hid (R = .inl (j, 66)) := by show R = _; rw [HA.out, if_pos ⟨hfull, h61⟩]
                clear h61 her
                go_wp2_with (first
                  | (go_at_call 9; refine KJ.out.mono ?_; rintro e w2 ⟨rfl, h2⟩; have h2' := h2.symm; subst h2')
                  | (go_at_call 10; refine KK2.out.mono ?_; rintro e w3 ⟨b3, A, B, C, D, S, rfl⟩))
                go_ret3
                refine ⟨(HW.out.trans (b3.mono HW.out.size)).alloc (Nat.le_trans hz3 b3.size) _, ?_⟩
                rw [HRR.out]; try rfl
              · have q2 : ((acc.length : Int) == 16384) = false := by simp; omega
                have HRR : Hid (R = .inl (j, er)) := by show R = _; rw [HA.out, if_neg (fun h => hfull h.1)]
                have q3 : ((er : Int) == 0) = false := by simp; omega
                have q4 : ((er : Int) != 0) = true := by simp; omega
                clear h61 her hfull
                go_wp2_with (first
                  | (go_at_call 9; refine KJ.out.mono ?_; rintro e w2 ⟨rfl, h2⟩; have h2' := h2.symm; subst h2')
                  | (go_at_call 10; refine KK2.out.mono ?_; rintro e w3 ⟨b3, A, B, C, D, S, rfl⟩))
                go_ret3
                refine ⟨(HW.out.trans (b3.mono HW.out.size)).alloc (Nat.le_trans hz3 b3.size) _, ?_⟩
                rw [HRR.out]; try rfl
          | inr qq4 =>
            obtain ⟨k, m, v, s⟩ := qq4
            rw [hO] at KK
            have KK2 : Hid (Calls Tryd.prog 10 #[.slice (some ⟨b, o, none⟩) n c, .int .i64 j] wr fun e w' => Below wr.heap.size wr w' ∧ e = .returned (.tuple #[.agg #[.int .i64 k, .int .i64 j, .int .i64 (j + m), .int .u64 v, .string (bs s)], .int .i64 0])) := KK.out.mono fun e w' h => ⟨h.1, by have := h.2; simp only [oneV, tokV] at this; rw [this]; first | rfl | simp⟩
            clear KK
            have hm := one_len _ _ _ _ _ hO
            have hml : m ≤ n - j := by have := hm.2; rw [List.length_drop, HN.out] at this; exact this
            have HA : Hid (R = if acc.length = 16384 then .inl (j, 66) else ans (l.drop (j + m)) (j + m) (acc ++ [⟨k, j, j + m, v, s⟩])) := by
              show R = _
              rw [HQ.out, ans_tok HSK.out hO, List.drop_drop]
            by_cases hfull : acc.length = 16384
            · have q1 : ((acc.length : Int) == 16384) = true := by simp; omega
              have HRR : Hid (R = .inl (j, 66)) := by show R = _; rw [HA.out, if_pos hfull]
              clear hO
              go_wp2_with (first
                | (go_at_call 9; refine KJ.out.mono ?_; rintro e w2 ⟨rfl, h2⟩; have h2' := h2.symm; subst h2')
                | (go_at_call 10; refine KK2.out.mono ?_; rintro e w3 ⟨b3, rfl⟩))
              go_ret3
              refine ⟨(HW.out.trans (b3.mono HW.out.size)).alloc (Nat.le_trans hz3 b3.size) _, ?_⟩
              rw [HRR.out]; try rfl
            · have q1 : ((acc.length : Int) == 16384) = false := by simp; omega
              have HRR : Hid (R = ans (l.drop (j + m)) (j + m) (acc ++ [⟨k, j, j + m, v, s⟩])) := by show R = _; rw [HA.out, if_neg hfull]
              clear hO
              go_wp2_with (first
                | (go_at_call 9; refine KJ.out.mono ?_; rintro e w2 ⟨rfl, h2⟩; have h2' := h2.symm; subst h2')
                | (go_at_call 10; refine KK2.out.mono ?_; rintro e w3 ⟨b3, rfl⟩; have HO3 := Lib.hid (owns_held HO.out b3); have hz4 := b3.size)
                | (at_builtin; refine wpList_append_own_at _ rfl _ _ 23 rfl w.heap.size 33 i0 (.agg #[.int .i64 0, .int .i64 0, .int .i64 0, .int .u64 0, .string ⟨#[]⟩]) 5 48 Tryd.underlying23 hi0 hz0 hz1 hz2 rfl (by decide) (.slice a acc.length cp) _ _ rfl ((HO3.out.alloc _).alloc _) ⟨w3.heap.size + 1, 0, none⟩ 1 1 [.int .i64 k, .int .i64 j, .int .i64 (j + m), .int .u64 v, .string (bs s)] rfl rfl (cells5 w3 _ _ _ _ _ _ _) (by simp [Value.oneCell']) (by unfold maxLen; omega) (by omega) (by simp; omega) ?_; intro v4 w4 ho4 hg4 hn4 ha4; obtain ⟨a4, d4, rfl⟩ := own_slice ho4; have ct := cell_kept w3 hg4 HO3.out))
              have hm1 := hm.1
              go_roundg (n - (j + m))
              case measure => omega
              case rel =>
                have hW3 := HW.out.trans (b3.mono HW.out.size)
                refine ⟨j + m, a4, d4, acc ++ [⟨k, j, j + m, v, s⟩], by omega, rfl, by first | rfl | simp, by simp, ?_, by simp; omega, HRR.out, below_grown ((hW3.alloc hW3.size _).alloc (Nat.le_trans hW3.size (by simp)) _) hg4 ((HO3.out.alloc _).alloc _) (Nat.le_refl _)⟩
                unfold Toks
                rw [List.length_append, List.flatMap_append]
                exact ho4

set_option maxRecDepth 100000 in
set_option maxHeartbeats 2000000 in
theorem rscan_long (p : Option Addr) (n c : Nat) (w : World) (hn : 65536 < n) (hm : n ≤ 140737488355328) : Calls Tryd.prog 5 #[.slice p n c] w (SR w (.inl (0, 60))) := by
  have q : (65536 : Int) < (n : Int) := by omega
  go_enter Tryd.func5, Tryd.ntmps5
  go_wp2
  go_ret3
  exact ⟨Below.refl _ _, rfl⟩

set_option maxRecDepth 100000 in
set_option maxHeartbeats 2000000 in
theorem rscan_nil (p : Option Addr) (c : Nat) (w : World) : Calls Tryd.prog 5 #[.slice p 0 c] w (SR w (.inr [])) := by
  obtain ⟨R, hR⟩ : ∃ R, R = SR w (.inr []) := ⟨_, rfl⟩
  rw [← hR]
  have HR := Lib.hid hR
  clear hR
  go_enter Tryd.func5, Tryd.ntmps5
  go_wp2
  go_loopg [5, 6] 0 (fun gk s5 s6 wx => s5 = .slice none 0 0 ∧ s6 = .int .i64 0 ∧ wx = w)
  case atStart => exact ⟨rfl, rfl, rfl⟩
  case round =>
    obtain ⟨rfl, rfl, rfl⟩ := hrel
    go_wp2
    go_ret3
    rw [HR.out]
    exact ⟨Below.refl _ _, _, rfl, World.ownsRow_nil _ _ _ _⟩

theorem rscan_all (p : Option Addr) (l : Bs) (c : Nat) (w : World) (hS : Src w p l c) (hm : l.length ≤ 140737488355328) : Calls Tryd.prog 5 #[.slice p l.length c] w (SR w (scan l)) := by
  unfold scan
  by_cases h : 65536 < l.length
  · rw [if_pos h]
    exact rscan_long p l.length c w h hm
  · rw [if_neg h]
    rcases hS.2 with rfl | ⟨b, o, rfl, hl⟩
    · exact rscan_nil p c w
    · cases l with
      | nil => exact rscan_nil _ c w
      | cons x t => exact rscan_any b o c (x :: t) w hl (hl.lt (by simp)) (by omega) hS.1
end Go.Proofs.YtbkakdmkabhcnaaDoor
