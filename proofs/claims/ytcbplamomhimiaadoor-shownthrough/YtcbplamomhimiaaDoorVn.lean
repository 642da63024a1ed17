/- A chain that is fit, by the document: where it tells so, what of it counts here holds; the conditions: the chain and its patterns where they are told to lie. -/
import Derived.Test.YtcbplamomhimiaaDoorVl
import Derived.Test.YtcbplamomhimiaaDoorVm
import Derived.Test.YtcbplamomhimiaaDoorUz
namespace Go.Proofs.YtcbplamomhimiaaDoor
open Go.RowKit

theorem low10 {c : Nat} (h2 : c ≤ 2047) (h10 : c.testBit 10 = false) : c < 1024 := by
  have h11 : c < 2 ^ 10 := lt_of_bits fun i hi => by
    have : i < 11 := lt_bits (n := 11) (show c < 2 ^ 11 by omega) hi
    rcases Nat.lt_or_ge i 10 with h | h
    · exact h
    · obtain rfl : i = 10 := by omega
      rw [h10] at hi; cases hi
  exact h11
/-- A call that tells something, and F where it tells yes. -/
def RP (F : Prop) (w w' : World) (e : Ending) : Prop := ∃ b, e = .returned (.bool b) ∧ (b = true → F) ∧ Below w.heap.size w w'
theorem RP.no {F : Prop} {w w' : World} (h : Below w.heap.size w w') : RP F w w' (.returned (.bool false)) := ⟨false, rfl, fun h => (by cases h), h⟩
theorem RP.yes {F : Prop} {w w' : World} (f : F) (h : Below w.heap.size w w') : RP F w w' (.returned (.bool true)) := ⟨true, rfl, fun _ => f, h⟩
set_option maxRecDepth 100000 in
set_option maxHeartbeats 4000000 in
theorem rwrap_cells (o A B : Int) (cp : Nat) (w0 w1 : Int) (wa : Option Addr) (wl wc : Nat) (on : Bool) (hcp : cp < 4294967296) (n : Nat) (t : Wt n) (w : World) (hr : RepW w n [.int .i64 w0, .int .i64 w1, .slice wa wl wc] t) :
    Calls Tryd.prog 29 #[.agg #[.int .i64 o, .int .i64 A, .int .i64 B, .int .u32 (cp : Nat), .int .i64 w0, .int .i64 w1, .slice wa wl wc, .bool on]] w fun e w' => RP (1 ≤ o ∧ o ≤ 12 ∧ cp < 1024) w w' e := by
  by_cases h0 : o < 1
  · clear hr
    go_enter Tryd.func29, Tryd.ntmps29
    go_wp2
    go_ret
    exact RP.no (below1 _ _)
  by_cases h1 : 13 ≤ o
  · clear hr
    go_enter Tryd.func29, Tryd.ntmps29
    go_wp2
    go_ret
    exact RP.no (below1 _ _)
  have KV := Lib.hid (rvalid_any cp)
  by_cases h2 : cp ≤ 2047
  · cases h10 : cp.testBit 10 with
    | true =>
      rw [decide_eq_true h2] at KV
      have KH := Lib.hid (rhas_any cp 10 hcp (by decide))
      rw [h10] at KH
      clear hr h10
      go_enter Tryd.func29, Tryd.ntmps29
      go_wp2_with (first
        | (go_at_call 41; refine (KV.out _).mono ?_; rintro e wv ⟨rfl, rfl⟩) | (go_at_call 37; refine (KH.out _).mono ?_; rintro e wh ⟨rfl, rfl⟩))
      go_ret
      exact RP.no (below1 _ _)
    | false =>
      have hok : 1 ≤ o ∧ o ≤ 12 ∧ cp < 1024 := ⟨by omega, by omega, low10 h2 h10⟩
      obtain ⟨N, l0, l1, hh0, hh1, c1, c2, c3, hR⟩ := row_any o (by omega) (by omega)
      cases c3 with
      | false => exact (wrapA o A B cp w0 w1 wa wl wc on n t w hr h0 h1 h2 h10 N l0 l1 hh0 hh1 c1 c2 hR).mono fun e w' ⟨b, a, h⟩ => ⟨b, a, fun _ => hok, h⟩
      | true => exact (wrapB o A B cp w0 w1 wa wl wc on n t w hr h0 h1 h2 h10 N l0 l1 hh0 hh1 c1 c2 hR).mono fun e w' ⟨b, a, h⟩ => ⟨b, a, fun _ => hok, h⟩
  · rw [decide_eq_false h2] at KV
    clear hr
    go_enter Tryd.func29, Tryd.ntmps29
    go_wp2_with (first
      | (go_at_call 41; refine (KV.out _).mono ?_; rintro e wv ⟨rfl, rfl⟩))
    go_ret
    exact RP.no (below1 _ _)

/-- A chain as it reads: its wrappers in memory, their patterns' trees, sets within 32 bits. -/
structure ChR (w : World) (c : Nat) (ad : Option Addr) (qs : List Wq) (cap n : Nat) : Prop where
  c : c < 4294967296
  l : qs.length ≤ cap
  m : cap ≤ maxLen
  r : WRow w ad qs
  q : ∀ q ∈ qs, q.x.cp < 4294967296 ∧ ∃ t : Wt n, RepW w n [.int .i64 q.w0, .int .i64 q.w1, .slice q.wa q.wl q.wc] t
theorem ChR.below {w w' : World} {c : Nat} {ad : Option Addr} {qs : List Wq} {cap n : Nat} (h : ChR w c ad qs cap n) (hb : Below w.heap.size w w') : ChR w' c ad qs cap n :=
  ⟨h.c, h.l, h.m, h.r.below hb, fun q hq => ⟨(h.q q hq).1, by obtain ⟨t, ht⟩ := (h.q q hq).2; exact ⟨t, RepW.below hb n _ _ ht⟩⟩⟩
set_option maxRecDepth 100000 in
set_option maxHeartbeats 4000000 in
theorem rchain_any (op num : Int) (c : Nat) (qs : List Wq) (ad : Option Addr) (cap n : Nat) (w : World) (h : ChR w c ad qs cap n) :
    Calls Tryd.prog 9 #[.agg #[.int .i64 op, .int .i64 num, .int .u32 (c : Nat), .slice ad qs.length cap]] w fun e w' => RP (c < 1024 ∧ (∀ q ∈ qs, okr q.x) ∧ qs.length ≤ 8) w w' e := by
  have b0 := On.start w (.cells #[.int .i64 op, .int .i64 num, .int .u32 (c : Nat), .slice ad qs.length cap] 28)
  obtain ⟨cb, hcb, hC⟩ := rcore_any op num c h.c
  have KC : Hid (∀ wx, On w (.cells #[.int .i64 op, .int .i64 num, .int .u32 (c : Nat), .slice ad qs.length cap] 28) wx → Calls Tryd.prog 28 #[.agg #[.int .i64 op, .int .i64 num, .int .u32 (c : Nat)]] wx fun e w' => e = .returned (.bool cb) ∧ On w (.cells #[.int .i64 op, .int .i64 num, .int .u32 (c : Nat), .slice ad qs.length cap] 28) w') := fun wx hx => (hC wx).mono fun e w' ⟨a, b⟩ => ⟨a, hx.step b⟩
  have HS : Hid (∀ wx, On w (.cells #[.int .i64 op, .int .i64 num, .int .u32 (c : Nat), .slice ad qs.length cap] 28) wx → wx.cell? ⟨w.heap.size, 3, none⟩ = some (.slice ad qs.length cap)) := fun wx h => h.cell 3
  have HCH := Lib.hid h
  have hl := h.l
  have hm := h.m
  unfold maxLen at hm
  clear hC h
  cases cb with
  | false =>
    go_enter Tryd.func9, Tryd.ntmps9
    go_wp2_with (first
      | (go_at_call 28; refine (KC.out _ b0).mono ?_; rintro e w2 ⟨rfl, b2⟩))
    go_ret
    exact RP.no b2.below
  | true =>
    have hc := hcb rfl
    clear hcb
    by_cases h8 : 8 < qs.length
    · have q8 : (8 : Int) < (qs.length : Int) := by omega
      go_enter Tryd.func9, Tryd.ntmps9
      go_wp2_with (first
        | (go_at_call 28; refine (KC.out _ b0).mono ?_; rintro e w2 ⟨rfl, b2⟩; have x3 := HS.out _ b2))
      go_ret
      exact RP.no b2.below
    · have q8 : ¬ (8 : Int) < (qs.length : Int) := by omega
      have h8' : qs.length ≤ 8 := by omega
      go_enter Tryd.func9, Tryd.ntmps9
      go_wp2_with (first
        | (go_at_call 28; refine (KC.out _ b0).mono ?_; rintro e w2 ⟨rfl, b2⟩; have x3 := HS.out _ b2))
      clear x3
      go_loopw [3] (fun s3 wr => ∃ (j : Nat), s3 = .int .i64 j ∧ j ≤ qs.length ∧ Hid (∀ i q, i < j → qs[i]? = some q → okr q.x) ∧ On w (.cells #[.int .i64 op, .int .i64 num, .int .u32 (c : Nat), .slice ad qs.length cap] 28) wr) (fun s3 _ => qs.length - (intOf s3).toNat)
      case atStart => exact ⟨0, rfl, Nat.zero_le _, Lib.hid (fun i q hi => by omega), b2⟩
      case round =>
        obtain ⟨j, rfl, hj, HA, hb⟩ := hrel
        have x3 := HS.out _ hb
        by_cases hlt : j < qs.length
        · have hne : qs ≠ [] := by intro e; rw [e] at hlt; exact absurd hlt (Nat.not_lt_zero _)
          have HC := HCH.out
          rcases HC.r with hk | ⟨gw, ow, hk1, hk2, hk3⟩
          · exact absurd hk hne
          subst hk1
          have hk4 := hk3 j _ (List.getElem?_eq_getElem hlt)
          obtain ⟨hcp, t, ht⟩ := HC.q qs[j] (List.getElem_mem hlt)
          have HO : Hid (okr qs[j].x → ∀ i q, i < j + 1 → qs[i]? = some q → okr q.x) := Lib.hid (fun h i q hi hq => by
            rcases Nat.lt_or_ge i j with h3 | h3
            · exact HA.out i q h3 hq
            · obtain rfl : i = j := by omega
              rw [List.getElem?_eq_getElem hlt] at hq
              cases hq; exact h)
          generalize qs[j] = q at hk4 hcp ht HO
          obtain ⟨⟨qo, qc, qn⟩, qA, qB, q0, q1, qa, ql, qcc⟩ := q
          have X : ∀ m, m < 8 → wr.cell? ⟨gw, ow + j * 8 + m, none⟩ = _ := fun m hm => (hb.below.cell (p := ⟨gw, _, none⟩) hk2).trans (hk4 m hm)
          have x0 : wr.cell? ⟨gw, ow + j * 8, none⟩ = some (.int .i64 qo) := X 0 (by decide)
          have x1 : wr.cell? ⟨gw, ow + j * 8 + 1, none⟩ = some (.int .i64 qA) := X 1 (by decide)
          have x2 : wr.cell? ⟨gw, ow + j * 8 + 2, none⟩ = some (.int .i64 qB) := X 2 (by decide)
          have y3 : wr.cell? ⟨gw, ow + j * 8 + 3, none⟩ = some (.int .u32 (qc : Nat)) := X 3 (by decide)
          have x4 : wr.cell? ⟨gw, ow + j * 8 + 4, none⟩ = some (.int .i64 q0) := X 4 (by decide)
          have x5 : wr.cell? ⟨gw, ow + j * 8 + 5, none⟩ = some (.int .i64 q1) := X 5 (by decide)
          have x6 : wr.cell? ⟨gw, ow + j * 8 + 6, none⟩ = some (.slice qa ql qcc) := X 6 (by decide)
          have x7 : wr.cell? ⟨gw, ow + j * 8 + 7, none⟩ = some (.bool qn) := X 7 (by decide)
          have KW := Lib.hid (rwrap_cells qo qA qB qc q0 q1 qa ql qcc qn hcp n t wr (RepW.below hb.below n _ _ ht))
          clear X hk4 hk3 ht hcp HC HA
          have q1' : ((j : Nat) : Int) < (qs.length : Int) := by omega
          have q2' : (0 : Int) ≤ ((j : Nat) : Int) := by omega
          go_wp2_with fail
          refine KW.out.mono ?_
          rintro e w4 ⟨b4, rfl, ho4, hb4⟩
          have b4' := hb.step hb4
          cases b4
          · go_wp2
            go_ret
            exact RP.no b4'.below
          · have HO2 := Lib.hid (HO.out (ho4 rfl))
            clear ho4 HO
            go_wp2
            exact ⟨⟨j + 1, by go_num, by omega, HO2, b4'⟩, by simp [intOf] <;> omega⟩
        · have hje : j = qs.length := by omega
          subst hje
          go_wp2
          go_ret
          exact RP.yes ⟨hc, fun q hq => by obtain ⟨i, hi, e⟩ := List.mem_iff_getElem.1 hq; exact HA.out i q hi (by rw [List.getElem?_eq_getElem hi, e]), h8'⟩ hb.below
end Go.Proofs.YtcbplamomhimiaaDoor
