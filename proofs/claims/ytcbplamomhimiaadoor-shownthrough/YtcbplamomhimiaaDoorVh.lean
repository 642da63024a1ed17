/- A pattern's text in the document: written and Text, as the plain functions say; the conditions: the pattern's tree in memory, its parts right and not too many. -/
import Derived.Test.YtcbplamomhimiaaDoorVg
import Derived.Deep.RegionLaw
namespace Go.Proofs.YtcbplamomhimiaaDoor
open Go.RowKit

theorem bs_append (a b : Bs) : bs a ++ bs b = bs (a ++ b) := by
  apply tl_inj.1
  rw [tl_bs, tl_data]
  simp [bs, ByteArray.data_append]
theorem s_par (T : Bs) : (⟨#[40]⟩ : ByteArray) ++ bs T ++ ⟨#[41]⟩ = bs (40 :: (T ++ [41])) := by
  rw [show (⟨#[40]⟩ : ByteArray) = bs [40] from rfl, show (⟨#[41]⟩ : ByteArray) = bs [41] from rfl, bs_append, bs_append]; rfl
theorem s_app (s T : Bs) (a b c : UInt8) : bs s ++ (⟨#[a, b, c]⟩ : ByteArray) ++ bs T = bs (s ++ [a, b, c] ++ T) := by
  rw [show (⟨#[a, b, c]⟩ : ByteArray) = bs [a, b, c] from rfl, bs_append, bs_append]
theorem s_not (T : Bs) : (⟨#[33]⟩ : ByteArray) ++ bs T = bs (33 :: T) := by
  rw [show (⟨#[33]⟩ : ByteArray) = bs [33] from rfl, bs_append]; rfl
theorem bs_sz (a : Bs) : (bs a).size = a.length := by simp [bs, ByteArray.size]
set_option maxRecDepth 100000 in
set_option maxHeartbeats 4000000 in
theorem wordsKind (w : World) : Calls Tryd.prog 62 #[] w fun e w' => ∃ b, e = .returned (.slice (some ⟨b, 0, none⟩) 14 14) ∧ (∀ j, j < 14 → w'.cell? ⟨b, j, none⟩ = some (.string (bs (kwd.getD j [])))) ∧ Below w.heap.size w w' := by
  go_enter Tryd.func62, Tryd.ntmps62
  go_wp2
  go_ret
  refine ⟨w.heap.size, rfl, fun j hj => ?_, below1 _ _⟩
  rw [cell_at (heap_alloc_new _ _) j]
  have : j = 0 ∨ j = 1 ∨ j = 2 ∨ j = 3 ∨ j = 4 ∨ j = 5 ∨ j = 6 ∨ j = 7 ∨ j = 8 ∨ j = 9 ∨ j = 10 ∨ j = 11 ∨ j = 12 ∨ j = 13 := by omega
  rcases this with rfl | rfl | rfl | rfl | rfl | rfl | rfl | rfl | rfl | rfl | rfl | rfl | rfl | rfl <;> rfl
set_option maxRecDepth 100000 in
set_option maxHeartbeats 4000000 in
theorem wordsFace (w : World) : Calls Tryd.prog 63 #[] w fun e w' => ∃ b, e = .returned (.slice (some ⟨b, 0, none⟩) 10 10) ∧ (∀ j, j < 10 → w'.cell? ⟨b, j, none⟩ = some (.string (bs (fwd.getD j [])))) ∧ Below w.heap.size w w' := by
  go_enter Tryd.func63, Tryd.ntmps63
  go_wp2
  go_ret
  refine ⟨w.heap.size, rfl, fun j hj => ?_, below1 _ _⟩
  rw [cell_at (heap_alloc_new _ _) j]
  have : j = 0 ∨ j = 1 ∨ j = 2 ∨ j = 3 ∨ j = 4 ∨ j = 5 ∨ j = 6 ∨ j = 7 ∨ j = 8 ∨ j = 9 := by omega
  rcases this with rfl | rfl | rfl | rfl | rfl | rfl | rfl | rfl | rfl | rfl <;> rfl

def WrN (n : Nat) : Prop := ∀ (t : Wt n) (v0 v1 v2 : Value) (w : World), RepW w n [v0, v1, v2] t → wgt n t = true → sz n t ≤ 16384 →
    Calls Tryd.prog 59 #[.agg #[v0, v1, v2]] w fun e w' => e = .returned (.string (bs (wtx n t))) ∧ Below w.heap.size w w'
set_option maxRecDepth 100000 in
set_option maxHeartbeats 4000000 in
theorem wr1 (m : Int) (ad : Option Addr) (len cap : Nat) (w : World) :
    Calls Tryd.prog 59 #[.agg #[.int .i64 1, .int .i64 m, .slice ad len cap]] w fun e w' => e = .returned (.string (bs [97, 110, 121])) ∧ Below w.heap.size w w' := by
  go_enter Tryd.func59, Tryd.ntmps59
  go_wp2
  go_ret
  exact ⟨rfl, below1 w _⟩
set_option maxRecDepth 100000 in
set_option maxHeartbeats 4000000 in
theorem wr2 (m : Nat) (hm : m < 14) (ad : Option Addr) (len cap : Nat) (w : World) :
    Calls Tryd.prog 59 #[.agg #[.int .i64 2, .int .i64 (m : Nat), .slice ad len cap]] w fun e w' => e = .returned (.string (bs (kwd.getD m []))) ∧ Below w.heap.size w w' := by
  have hb0 := One.start w (.int .i64 2) (.int .i64 (m : Nat)) (.slice ad len cap)
  have KW : Hid (∀ wx, One w (.int .i64 2) (.int .i64 (m : Nat)) (.slice ad len cap) wx → Calls Tryd.prog 62 #[] wx fun e w' => ∃ b, e = .returned (.slice (some ⟨b, 0, none⟩) 14 14) ∧ w'.cell? ⟨b, m, none⟩ = some (.string (bs (kwd.getD m []))) ∧ One w (.int .i64 2) (.int .i64 (m : Nat)) (.slice ad len cap) w') := fun wx hx => (wordsKind wx).mono fun e w' ⟨b, a, h1, h2⟩ => ⟨b, a, h1 m hm, hx.step h2⟩
  have HS : Hid (∀ wx, One w (.int .i64 2) (.int .i64 (m : Nat)) (.slice ad len cap) wx → wx.cell? ⟨w.heap.size, 1, none⟩ = some (.int .i64 (m : Nat))) := fun wx h => h.c.2.1
  have c1 := HS.out _ hb0
  have h0 : (0 : Int) ≤ ((m : Nat) : Int) := by omega
  have h1 : ((m : Nat) : Int) < 14 := by omega
  generalize kwd.getD m [] = T at KW ⊢
  go_enter Tryd.func59, Tryd.ntmps59
  go_wp2_with fail
  go_region_law (first
    | (go_simp; go_at_call 62; refine (KW.out _ (by first | assumption | exact One.drew (by assumption))).mono ?_; rintro e wa ⟨b, rfl, xa, ba⟩; have ca := HS.out _ ba))
  all_goals go_wp2
  all_goals go_ret
  all_goals exact ⟨rfl, One.below (by first | assumption | exact One.drew (by assumption))⟩
set_option maxRecDepth 100000 in
set_option maxHeartbeats 4000000 in
theorem wr3 (m : Nat) (hm : m < 10) (ad : Option Addr) (len cap : Nat) (w : World) :
    Calls Tryd.prog 59 #[.agg #[.int .i64 3, .int .i64 (m : Nat), .slice ad len cap]] w fun e w' => e = .returned (.string (bs (fwd.getD m []))) ∧ Below w.heap.size w w' := by
  have hb0 := One.start w (.int .i64 3) (.int .i64 (m : Nat)) (.slice ad len cap)
  have KW : Hid (∀ wx, One w (.int .i64 3) (.int .i64 (m : Nat)) (.slice ad len cap) wx → Calls Tryd.prog 63 #[] wx fun e w' => ∃ b, e = .returned (.slice (some ⟨b, 0, none⟩) 10 10) ∧ w'.cell? ⟨b, m, none⟩ = some (.string (bs (fwd.getD m []))) ∧ One w (.int .i64 3) (.int .i64 (m : Nat)) (.slice ad len cap) w') := fun wx hx => (wordsFace wx).mono fun e w' ⟨b, a, h1, h2⟩ => ⟨b, a, h1 m hm, hx.step h2⟩
  have HS : Hid (∀ wx, One w (.int .i64 3) (.int .i64 (m : Nat)) (.slice ad len cap) wx → wx.cell? ⟨w.heap.size, 1, none⟩ = some (.int .i64 (m : Nat))) := fun wx h => h.c.2.1
  have c1 := HS.out _ hb0
  have h0 : (0 : Int) ≤ ((m : Nat) : Int) := by omega
  have h1 : ((m : Nat) : Int) < 10 := by omega
  generalize fwd.getD m [] = T at KW ⊢
  go_enter Tryd.func59, Tryd.ntmps59
  go_wp2_with fail
  go_region_law (first
    | (go_simp; go_at_call 63; refine (KW.out _ (by first | assumption | exact One.drew (by assumption))).mono ?_; rintro e wa ⟨b, rfl, xa, ba⟩; have ca := HS.out _ ba))
  all_goals go_wp2
  all_goals go_ret
  all_goals exact ⟨rfl, One.below (by first | assumption | exact One.drew (by assumption))⟩
set_option maxRecDepth 100000 in
set_option maxHeartbeats 4000000 in
theorem wr4 (n : Nat) (ih : WrN n) (ts : List (Wt n)) (m : Int) (ad : Option Addr) (cap : Nat) (w : World) (hcap : ts.length ≤ cap) (hmax : cap ≤ maxLen) (hr : KidsW w n ad ts) (hg : ts.all (wgt n) = true) (hz : szL (fun t => sz n t) ts ≤ 16384) :
    Calls Tryd.prog 59 #[.agg #[.int .i64 4, .int .i64 m, .slice ad ts.length cap]] w fun e w' => e = .returned (.string (bs (wtL (wt1 n (fun t => wtx n t) 4) 4 ts 0 []))) ∧ Below w.heap.size w w' := by
  unfold maxLen at hmax
  have HI : Hid (∀ (t : Wt n) (v0 v1 v2 : Value) (wx : World), RepW w n [v0, v1, v2] t → wgt n t = true → sz n t ≤ 16384 → One w (.int .i64 4) (.int .i64 m) (.slice ad ts.length cap) wx → Calls Tryd.prog 59 #[.agg #[v0, v1, v2]] wx fun e w' => e = .returned (.string (bs (wtx n t))) ∧ One w (.int .i64 4) (.int .i64 m) (.slice ad ts.length cap) w') := fun t v0 v1 v2 wx hx h1 h2 ho => (ih t v0 v1 v2 wx (RepW.below ho.below n _ _ hx) h1 h2).mono fun e w' ⟨a, b⟩ => ⟨a, ho.step b⟩
  have HK := Lib.hid hr
  have HG := Lib.hid (List.all_eq_true.1 hg)
  have hb0 := One.start w (.int .i64 4) (.int .i64 m) (.slice ad ts.length cap)
  clear ih hr hg
  go_enter Tryd.func59, Tryd.ntmps59
  go_wp2_with fail
  go_loopw [3, 27] (fun s3 si wr => ∃ (j : Nat) (s : Bs), s3 = .string (bs s) ∧ si = .int .i64 j ∧ j ≤ ts.length ∧ Hid (wtL (wt1 n (fun t => wtx n t) 4) 4 (ts.drop j) j s = wtL (wt1 n (fun t => wtx n t) 4) 4 ts 0 []) ∧ s.length + 20 * szL (fun t => sz n t) (ts.drop j) ≤ 327680 ∧ One w (.int .i64 4) (.int .i64 m) (.slice ad ts.length cap) wr) (fun _ si _ => ts.length - (intOf si).toNat)
  case atStart => exact ⟨0, [], rfl, rfl, Nat.zero_le _, Lib.hid rfl, by show 0 + 20 * szL (fun t => sz n t) ts ≤ 327680; omega, hb0⟩
  case round =>
    obtain ⟨j, s, rfl, rfl, hj, HV, hsl, hb⟩ := hrel
    have hbw := hb.below
    obtain ⟨c0, c1, c2⟩ := hb.c
    by_cases hlt : j < ts.length
    · have hne : ts ≠ [] := by intro e; rw [e] at hlt; exact absurd hlt (Nat.not_lt_zero _)
      rcases HK.out with hk | ⟨g, oo, hk1, hk2⟩
      · exact absurd hk hne
      subst hk1
      obtain ⟨v0, v1, v2, e0, e1, e2, rk⟩ := hk2 j _ (List.getElem?_eq_getElem hlt)
      have hgl : g < w.heap.size := World.block_lt_of_cell? w _ e0
      have hgt : wgt n ts[j] = true := HG.out _ (List.getElem_mem hlt)
      rw [drop_atW ts j hlt] at hsl
      simp only [szL] at hsl
      have HV' : Hid (wtL (wt1 n (fun t => wtx n t) 4) 4 (ts.drop (j + 1)) (j + 1) (if (4 : Int) = 6 then 33 :: wt1 n (fun t => wtx n t) 4 ts[j] else if j = 0 then wt1 n (fun t => wtx n t) 4 ts[j] else if (4 : Int) = 5 then s ++ [32, 38, 32] ++ wt1 n (fun t => wtx n t) 4 ts[j] else s ++ [32, 124, 32] ++ wt1 n (fun t => wtx n t) 4 ts[j]) = wtL (wt1 n (fun t => wtx n t) 4) 4 ts 0 []) := Lib.hid (by rw [← HV.out, drop_atW ts j hlt]; rfl)
      have hwl := wtx_len n ts[j]
      have KP : Hid (Calls Tryd.prog 59 #[.agg #[v0, v1, v2]] wr fun e w' => e = .returned (.string (bs (wtx n ts[j]))) ∧ One w (.int .i64 4) (.int .i64 m) (.slice (some ⟨g, oo, none⟩) ts.length cap) w') := HI.out ts[j] v0 v1 v2 wr rk hgt (by omega) hb
      obtain ⟨m', ad', len', cap', rfl, rfl, rfl⟩ := repW_top rk
      have X : Hid (∀ wx, One w (.int .i64 4) (.int .i64 m) (.slice (some ⟨g, oo, none⟩) ts.length cap) wx → wx.cell? ⟨g, oo + j * 3, none⟩ = some (.int .i64 (topW n ts[j])) ∧ wx.cell? ⟨w.heap.size, 0, none⟩ = some (.int .i64 4) ∧ wx.cell? ⟨w.heap.size, 1, none⟩ = some (.int .i64 m) ∧ wx.cell? ⟨w.heap.size, 2, none⟩ = some (.slice (some ⟨g, oo, none⟩) ts.length cap)) := fun wx hx => ⟨(hx.below.cell (p := ⟨g, oo + j * 3, none⟩) hgl).trans e0, hx.c⟩
      have x0 := (hbw.cell (p := ⟨g, oo + j * 3, none⟩) hgl).trans e0
      have x1 := (hbw.cell (p := ⟨g, oo + j * 3 + 1, none⟩) hgl).trans e1
      have x2 := (hbw.cell (p := ⟨g, oo + j * 3 + 2, none⟩) hgl).trans e2
      have KQ : Hid (∀ wx, Calls Tryd.prog 64 #[.int .i64 4, .int .i64 (topW n ts[j])] wx fun e w' => e = .returned (.bool (prn 4 (topW n ts[j]))) ∧ w' = wx) := parens_any 4 _
      have HT : Hid (wt1 n (fun t => wtx n t) 4 ts[j] = if prn 4 (topW n ts[j]) = true then 40 :: (wtx n ts[j] ++ [41]) else wtx n ts[j]) := Lib.hid rfl
      generalize wt1 n (fun t => wtx n t) 4 ts[j] = T1 at HT HV'
      generalize wtx n ts[j] = T0 at HT KP hwl
      generalize sz n ts[j] = Z at hsl hwl
      generalize topW n ts[j] = tp at HT X KQ x0 KP
      have hzr : szL (fun t => sz n t) (ts.drop (j + 1)) ≤ 16384 := by omega
      generalize hZr : szL (fun t => sz n t) (ts.drop (j + 1)) = Zr at hsl hzr
      have hii : ((j : Nat) : Int) < (ts.length : Int) := by omega
      have hi0 : (0 : Int) ≤ ((j : Nat) : Int) := by omega
      clear e0 e1 e2 hk2 HK rk HI HV HG
      have z0 : (bs T0).size = T0.length := bs_sz T0
      have z1 : (bs s).size = s.length := bs_sz s
      by_cases hj0 : j = 0
      · have q0 : ((((j : Nat) : Int)) == 0) = true := by simp; omega
        have HJ := Lib.hid hj0
        clear hj0
        go_wp2_with (first
          | (go_at_call 59; refine KP.out.mono ?_; rintro e w1 ⟨rfl, b1⟩; obtain ⟨y0, y1, y2, y3⟩ := X.out _ b1))
        cases hp : prn 4 tp with
        | true =>
          rw [hp] at HT KQ
          go_quiet ((go_at_call 64; exact Calls.quiet_of_same (KQ.out _)))
          go_wp2
          have ht : T1 = 40 :: (T0 ++ [41]) := by rw [HT.out]; rfl
          refine ⟨⟨j + 1, T1, ?_, by go_num, by omega, Lib.hid ?_, ?_, One.drewN b1 _⟩, by simp [intOf] <;> omega⟩
          · rw [ht, s_par]
          · rw [← HV'.out]; rw [if_neg (by decide), if_pos HJ.out]
          · have hl1 : T1.length ≤ T0.length + 2 := by rw [ht]; simp
            rw [hZr]
            omega
        | false =>
          rw [hp] at HT KQ
          go_quiet ((go_at_call 64; exact Calls.quiet_of_same (KQ.out _)))
          go_wp2
          have ht : T1 = T0 := by rw [HT.out]; rfl
          refine ⟨⟨j + 1, T1, ?_, by go_num, by omega, Lib.hid ?_, ?_, One.drewN b1 _⟩, by simp [intOf] <;> omega⟩
          · rw [ht]
          · rw [← HV'.out]; rw [if_neg (by decide), if_pos HJ.out]
          · have hl1 : T1.length ≤ T0.length + 2 := by rw [ht]; omega
            rw [hZr]
            omega
      · have q0 : ((((j : Nat) : Int)) == 0) = false := by simp; omega
        have HJ := Lib.hid hj0
        clear hj0
        go_wp2_with (first
          | (go_at_call 59; refine KP.out.mono ?_; rintro e w1 ⟨rfl, b1⟩; obtain ⟨y0, y1, y2, y3⟩ := X.out _ b1))
        cases hp : prn 4 tp with
        | true =>
          rw [hp] at HT KQ
          go_quiet ((go_at_call 64; exact Calls.quiet_of_same (KQ.out _)))
          go_wp2
          have ht : T1 = 40 :: (T0 ++ [41]) := by rw [HT.out]; rfl
          refine ⟨⟨j + 1, s ++ [32, 124, 32] ++ T1, ?_, by go_num, by omega, Lib.hid ?_, ?_, One.drewN b1 _⟩, by simp [intOf] <;> omega⟩
          · rw [ht, s_par, s_app]
          · rw [← HV'.out]; rw [if_neg (by decide), if_neg HJ.out, if_neg (by decide)]
          · have hl1 : T1.length ≤ T0.length + 2 := by rw [ht]; simp
            rw [hZr]
            rw [List.length_append, List.length_append, show [(32 : UInt8), 124, 32].length = 3 from rfl]; omega
        | false =>
          rw [hp] at HT KQ
          go_quiet ((go_at_call 64; exact Calls.quiet_of_same (KQ.out _)))
          go_wp2
          have ht : T1 = T0 := by rw [HT.out]; rfl
          refine ⟨⟨j + 1, s ++ [32, 124, 32] ++ T1, ?_, by go_num, by omega, Lib.hid ?_, ?_, One.drewN b1 _⟩, by simp [intOf] <;> omega⟩
          · rw [ht, s_app]
          · rw [← HV'.out]; rw [if_neg (by decide), if_neg HJ.out, if_neg (by decide)]
          · have hl1 : T1.length ≤ T0.length + 2 := by rw [ht]; omega
            rw [hZr]
            rw [List.length_append, List.length_append, show [(32 : UInt8), 124, 32].length = 3 from rfl]; omega
    · have hje : j = ts.length := by omega
      have hv := HV.out
      rw [hje, List.drop_length] at hv
      have HW := Lib.hid hv
      clear hv HV
      go_wp2_with fail
      go_ret
      exact ⟨by rw [← HW.out]; rfl, hbw⟩
set_option maxRecDepth 100000 in
set_option maxHeartbeats 4000000 in
theorem wr5 (n : Nat) (ih : WrN n) (ts : List (Wt n)) (m : Int) (ad : Option Addr) (cap : Nat) (w : World) (hcap : ts.length ≤ cap) (hmax : cap ≤ maxLen) (hr : KidsW w n ad ts) (hg : ts.all (wgt n) = true) (hz : szL (fun t => sz n t) ts ≤ 16384) :
    Calls Tryd.prog 59 #[.agg #[.int .i64 5, .int .i64 m, .slice ad ts.length cap]] w fun e w' => e = .returned (.string (bs (wtL (wt1 n (fun t => wtx n t) 5) 5 ts 0 []))) ∧ Below w.heap.size w w' := by
  unfold maxLen at hmax
  have HI : Hid (∀ (t : Wt n) (v0 v1 v2 : Value) (wx : World), RepW w n [v0, v1, v2] t → wgt n t = true → sz n t ≤ 16384 → One w (.int .i64 5) (.int .i64 m) (.slice ad ts.length cap) wx → Calls Tryd.prog 59 #[.agg #[v0, v1, v2]] wx fun e w' => e = .returned (.string (bs (wtx n t))) ∧ One w (.int .i64 5) (.int .i64 m) (.slice ad ts.length cap) w') := fun t v0 v1 v2 wx hx h1 h2 ho => (ih t v0 v1 v2 wx (RepW.below ho.below n _ _ hx) h1 h2).mono fun e w' ⟨a, b⟩ => ⟨a, ho.step b⟩
  have HK := Lib.hid hr
  have HG := Lib.hid (List.all_eq_true.1 hg)
  have hb0 := One.start w (.int .i64 5) (.int .i64 m) (.slice ad ts.length cap)
  clear ih hr hg
  go_enter Tryd.func59, Tryd.ntmps59
  go_wp2_with fail
  go_loopw [3, 27] (fun s3 si wr => ∃ (j : Nat) (s : Bs), s3 = .string (bs s) ∧ si = .int .i64 j ∧ j ≤ ts.length ∧ Hid (wtL (wt1 n (fun t => wtx n t) 5) 5 (ts.drop j) j s = wtL (wt1 n (fun t => wtx n t) 5) 5 ts 0 []) ∧ s.length + 20 * szL (fun t => sz n t) (ts.drop j) ≤ 327680 ∧ One w (.int .i64 5) (.int .i64 m) (.slice ad ts.length cap) wr) (fun _ si _ => ts.length - (intOf si).toNat)
  case atStart => exact ⟨0, [], rfl, rfl, Nat.zero_le _, Lib.hid rfl, by show 0 + 20 * szL (fun t => sz n t) ts ≤ 327680; omega, hb0⟩
  case round =>
    obtain ⟨j, s, rfl, rfl, hj, HV, hsl, hb⟩ := hrel
    have hbw := hb.below
    obtain ⟨c0, c1, c2⟩ := hb.c
    by_cases hlt : j < ts.length
    · have hne : ts ≠ [] := by intro e; rw [e] at hlt; exact absurd hlt (Nat.not_lt_zero _)
      rcases HK.out with hk | ⟨g, oo, hk1, hk2⟩
      · exact absurd hk hne
      subst hk1
      obtain ⟨v0, v1, v2, e0, e1, e2, rk⟩ := hk2 j _ (List.getElem?_eq_getElem hlt)
      have hgl : g < w.heap.size := World.block_lt_of_cell? w _ e0
      have hgt : wgt n ts[j] = true := HG.out _ (List.getElem_mem hlt)
      rw [drop_atW ts j hlt] at hsl
      simp only [szL] at hsl
      have HV' : Hid (wtL (wt1 n (fun t => wtx n t) 5) 5 (ts.drop (j + 1)) (j + 1) (if (5 : Int) = 6 then 33 :: wt1 n (fun t => wtx n t) 5 ts[j] else if j = 0 then wt1 n (fun t => wtx n t) 5 ts[j] else if (5 : Int) = 5 then s ++ [32, 38, 32] ++ wt1 n (fun t => wtx n t) 5 ts[j] else s ++ [32, 124, 32] ++ wt1 n (fun t => wtx n t) 5 ts[j]) = wtL (wt1 n (fun t => wtx n t) 5) 5 ts 0 []) := Lib.hid (by rw [← HV.out, drop_atW ts j hlt]; rfl)
      have hwl := wtx_len n ts[j]
      have KP : Hid (Calls Tryd.prog 59 #[.agg #[v0, v1, v2]] wr fun e w' => e = .returned (.string (bs (wtx n ts[j]))) ∧ One w (.int .i64 5) (.int .i64 m) (.slice (some ⟨g, oo, none⟩) ts.length cap) w') := HI.out ts[j] v0 v1 v2 wr rk hgt (by omega) hb
      obtain ⟨m', ad', len', cap', rfl, rfl, rfl⟩ := repW_top rk
      have X : Hid (∀ wx, One w (.int .i64 5) (.int .i64 m) (.slice (some ⟨g, oo, none⟩) ts.length cap) wx → wx.cell? ⟨g, oo + j * 3, none⟩ = some (.int .i64 (topW n ts[j])) ∧ wx.cell? ⟨w.heap.size, 0, none⟩ = some (.int .i64 5) ∧ wx.cell? ⟨w.heap.size, 1, none⟩ = some (.int .i64 m) ∧ wx.cell? ⟨w.heap.size, 2, none⟩ = some (.slice (some ⟨g, oo, none⟩) ts.length cap)) := fun wx hx => ⟨(hx.below.cell (p := ⟨g, oo + j * 3, none⟩) hgl).trans e0, hx.c⟩
      have x0 := (hbw.cell (p := ⟨g, oo + j * 3, none⟩) hgl).trans e0
      have x1 := (hbw.cell (p := ⟨g, oo + j * 3 + 1, none⟩) hgl).trans e1
      have x2 := (hbw.cell (p := ⟨g, oo + j * 3 + 2, none⟩) hgl).trans e2
      have KQ : Hid (∀ wx, Calls Tryd.prog 64 #[.int .i64 5, .int .i64 (topW n ts[j])] wx fun e w' => e = .returned (.bool (prn 5 (topW n ts[j]))) ∧ w' = wx) := parens_any 5 _
      have HT : Hid (wt1 n (fun t => wtx n t) 5 ts[j] = if prn 5 (topW n ts[j]) = true then 40 :: (wtx n ts[j] ++ [41]) else wtx n ts[j]) := Lib.hid rfl
      generalize wt1 n (fun t => wtx n t) 5 ts[j] = T1 at HT HV'
      generalize wtx n ts[j] = T0 at HT KP hwl
      generalize sz n ts[j] = Z at hsl hwl
      generalize topW n ts[j] = tp at HT X KQ x0 KP
      have hzr : szL (fun t => sz n t) (ts.drop (j + 1)) ≤ 16384 := by omega
      generalize hZr : szL (fun t => sz n t) (ts.drop (j + 1)) = Zr at hsl hzr
      have hii : ((j : Nat) : Int) < (ts.length : Int) := by omega
      have hi0 : (0 : Int) ≤ ((j : Nat) : Int) := by omega
      clear e0 e1 e2 hk2 HK rk HI HV HG
      have z0 : (bs T0).size = T0.length := bs_sz T0
      have z1 : (bs s).size = s.length := bs_sz s
      by_cases hj0 : j = 0
      · have q0 : ((((j : Nat) : Int)) == 0) = true := by simp; omega
        have HJ := Lib.hid hj0
        clear hj0
        go_wp2_with (first
          | (go_at_call 59; refine KP.out.mono ?_; rintro e w1 ⟨rfl, b1⟩; obtain ⟨y0, y1, y2, y3⟩ := X.out _ b1))
        cases hp : prn 5 tp with
        | true =>
          rw [hp] at HT KQ
          go_quiet ((go_at_call 64; exact Calls.quiet_of_same (KQ.out _)))
          go_wp2
          have ht : T1 = 40 :: (T0 ++ [41]) := by rw [HT.out]; rfl
          refine ⟨⟨j + 1, T1, ?_, by go_num, by omega, Lib.hid ?_, ?_, One.drewN b1 _⟩, by simp [intOf] <;> omega⟩
          · rw [ht, s_par]
          · rw [← HV'.out]; rw [if_neg (by decide), if_pos HJ.out]
          · have hl1 : T1.length ≤ T0.length + 2 := by rw [ht]; simp
            rw [hZr]
            omega
        | false =>
          rw [hp] at HT KQ
          go_quiet ((go_at_call 64; exact Calls.quiet_of_same (KQ.out _)))
          go_wp2
          have ht : T1 = T0 := by rw [HT.out]; rfl
          refine ⟨⟨j + 1, T1, ?_, by go_num, by omega, Lib.hid ?_, ?_, One.drewN b1 _⟩, by simp [intOf] <;> omega⟩
          · rw [ht]
          · rw [← HV'.out]; rw [if_neg (by decide), if_pos HJ.out]
          · have hl1 : T1.length ≤ T0.length + 2 := by rw [ht]; omega
            rw [hZr]
            omega
      · have q0 : ((((j : Nat) : Int)) == 0) = false := by simp; omega
        have HJ := Lib.hid hj0
        clear hj0
        go_wp2_with (first
          | (go_at_call 59; refine KP.out.mono ?_; rintro e w1 ⟨rfl, b1⟩; obtain ⟨y0, y1, y2, y3⟩ := X.out _ b1))
        cases hp : prn 5 tp with
        | true =>
          rw [hp] at HT KQ
          go_quiet ((go_at_call 64; exact Calls.quiet_of_same (KQ.out _)))
          go_wp2
          have ht : T1 = 40 :: (T0 ++ [41]) := by rw [HT.out]; rfl
          refine ⟨⟨j + 1, s ++ [32, 38, 32] ++ T1, ?_, by go_num, by omega, Lib.hid ?_, ?_, One.drewN b1 _⟩, by simp [intOf] <;> omega⟩
          · rw [ht, s_par, s_app]
          · rw [← HV'.out]; rw [if_neg (by decide), if_neg HJ.out, if_pos (by decide)]
          · have hl1 : T1.length ≤ T0.length + 2 := by rw [ht]; simp
            rw [hZr]
            rw [List.length_append, List.length_append, show [(32 : UInt8), 38, 32].length = 3 from rfl]; omega
        | false =>
          rw [hp] at HT KQ
          go_quiet ((go_at_call 64; exact Calls.quiet_of_same (KQ.out _)))
          go_wp2
          have ht : T1 = T0 := by rw [HT.out]; rfl
          refine ⟨⟨j + 1, s ++ [32, 38, 32] ++ T1, ?_, by go_num, by omega, Lib.hid ?_, ?_, One.drewN b1 _⟩, by simp [intOf] <;> omega⟩
          · rw [ht, s_app]
          · rw [← HV'.out]; rw [if_neg (by decide), if_neg HJ.out, if_pos (by decide)]
          · have hl1 : T1.length ≤ T0.length + 2 := by rw [ht]; omega
            rw [hZr]
            rw [List.length_append, List.length_append, show [(32 : UInt8), 38, 32].length = 3 from rfl]; omega
    · have hje : j = ts.length := by omega
      have hv := HV.out
      rw [hje, List.drop_length] at hv
      have HW := Lib.hid hv
      clear hv HV
      go_wp2_with fail
      go_ret
      exact ⟨by rw [← HW.out]; rfl, hbw⟩
set_option maxRecDepth 100000 in
set_option maxHeartbeats 4000000 in
theorem wr6 (n : Nat) (ih : WrN n) (ts : List (Wt n)) (m : Int) (ad : Option Addr) (cap : Nat) (w : World) (hcap : ts.length ≤ cap) (hmax : cap ≤ maxLen) (hr : KidsW w n ad ts) (hg : ts.all (wgt n) = true) (hz : szL (fun t => sz n t) ts ≤ 16384) :
    Calls Tryd.prog 59 #[.agg #[.int .i64 6, .int .i64 m, .slice ad ts.length cap]] w fun e w' => e = .returned (.string (bs (wtL (wt1 n (fun t => wtx n t) 6) 6 ts 0 []))) ∧ Below w.heap.size w w' := by
  unfold maxLen at hmax
  have HI : Hid (∀ (t : Wt n) (v0 v1 v2 : Value) (wx : World), RepW w n [v0, v1, v2] t → wgt n t = true → sz n t ≤ 16384 → One w (.int .i64 6) (.int .i64 m) (.slice ad ts.length cap) wx → Calls Tryd.prog 59 #[.agg #[v0, v1, v2]] wx fun e w' => e = .returned (.string (bs (wtx n t))) ∧ One w (.int .i64 6) (.int .i64 m) (.slice ad ts.length cap) w') := fun t v0 v1 v2 wx hx h1 h2 ho => (ih t v0 v1 v2 wx (RepW.below ho.below n _ _ hx) h1 h2).mono fun e w' ⟨a, b⟩ => ⟨a, ho.step b⟩
  have HK := Lib.hid hr
  have HG := Lib.hid (List.all_eq_true.1 hg)
  have hb0 := One.start w (.int .i64 6) (.int .i64 m) (.slice ad ts.length cap)
  clear ih hr hg
  go_enter Tryd.func59, Tryd.ntmps59
  go_wp2_with fail
  go_loopw [3, 27] (fun s3 si wr => ∃ (j : Nat) (s : Bs), s3 = .string (bs s) ∧ si = .int .i64 j ∧ j ≤ ts.length ∧ Hid (wtL (wt1 n (fun t => wtx n t) 6) 6 (ts.drop j) j s = wtL (wt1 n (fun t => wtx n t) 6) 6 ts 0 []) ∧ s.length + 20 * szL (fun t => sz n t) (ts.drop j) ≤ 327680 ∧ One w (.int .i64 6) (.int .i64 m) (.slice ad ts.length cap) wr) (fun _ si _ => ts.length - (intOf si).toNat)
  case atStart => exact ⟨0, [], rfl, rfl, Nat.zero_le _, Lib.hid rfl, by show 0 + 20 * szL (fun t => sz n t) ts ≤ 327680; omega, hb0⟩
  case round =>
    obtain ⟨j, s, rfl, rfl, hj, HV, hsl, hb⟩ := hrel
    have hbw := hb.below
    obtain ⟨c0, c1, c2⟩ := hb.c
    by_cases hlt : j < ts.length
    · have hne : ts ≠ [] := by intro e; rw [e] at hlt; exact absurd hlt (Nat.not_lt_zero _)
      rcases HK.out with hk | ⟨g, oo, hk1, hk2⟩
      · exact absurd hk hne
      subst hk1
      obtain ⟨v0, v1, v2, e0, e1, e2, rk⟩ := hk2 j _ (List.getElem?_eq_getElem hlt)
      have hgl : g < w.heap.size := World.block_lt_of_cell? w _ e0
      have hgt : wgt n ts[j] = true := HG.out _ (List.getElem_mem hlt)
      rw [drop_atW ts j hlt] at hsl
      simp only [szL] at hsl
      have HV' : Hid (wtL (wt1 n (fun t => wtx n t) 6) 6 (ts.drop (j + 1)) (j + 1) (if (6 : Int) = 6 then 33 :: wt1 n (fun t => wtx n t) 6 ts[j] else if j = 0 then wt1 n (fun t => wtx n t) 6 ts[j] else if (6 : Int) = 5 then s ++ [32, 38, 32] ++ wt1 n (fun t => wtx n t) 6 ts[j] else s ++ [32, 124, 32] ++ wt1 n (fun t => wtx n t) 6 ts[j]) = wtL (wt1 n (fun t => wtx n t) 6) 6 ts 0 []) := Lib.hid (by rw [← HV.out, drop_atW ts j hlt]; rfl)
      have hwl := wtx_len n ts[j]
      have KP : Hid (Calls Tryd.prog 59 #[.agg #[v0, v1, v2]] wr fun e w' => e = .returned (.string (bs (wtx n ts[j]))) ∧ One w (.int .i64 6) (.int .i64 m) (.slice (some ⟨g, oo, none⟩) ts.length cap) w') := HI.out ts[j] v0 v1 v2 wr rk hgt (by omega) hb
      obtain ⟨m', ad', len', cap', rfl, rfl, rfl⟩ := repW_top rk
      have X : Hid (∀ wx, One w (.int .i64 6) (.int .i64 m) (.slice (some ⟨g, oo, none⟩) ts.length cap) wx → wx.cell? ⟨g, oo + j * 3, none⟩ = some (.int .i64 (topW n ts[j])) ∧ wx.cell? ⟨w.heap.size, 0, none⟩ = some (.int .i64 6) ∧ wx.cell? ⟨w.heap.size, 1, none⟩ = some (.int .i64 m) ∧ wx.cell? ⟨w.heap.size, 2, none⟩ = some (.slice (some ⟨g, oo, none⟩) ts.length cap)) := fun wx hx => ⟨(hx.below.cell (p := ⟨g, oo + j * 3, none⟩) hgl).trans e0, hx.c⟩
      have x0 := (hbw.cell (p := ⟨g, oo + j * 3, none⟩) hgl).trans e0
      have x1 := (hbw.cell (p := ⟨g, oo + j * 3 + 1, none⟩) hgl).trans e1
      have x2 := (hbw.cell (p := ⟨g, oo + j * 3 + 2, none⟩) hgl).trans e2
      have KQ : Hid (∀ wx, Calls Tryd.prog 64 #[.int .i64 6, .int .i64 (topW n ts[j])] wx fun e w' => e = .returned (.bool (prn 6 (topW n ts[j]))) ∧ w' = wx) := parens_any 6 _
      have HT : Hid (wt1 n (fun t => wtx n t) 6 ts[j] = if prn 6 (topW n ts[j]) = true then 40 :: (wtx n ts[j] ++ [41]) else wtx n ts[j]) := Lib.hid rfl
      generalize wt1 n (fun t => wtx n t) 6 ts[j] = T1 at HT HV'
      generalize wtx n ts[j] = T0 at HT KP hwl
      generalize sz n ts[j] = Z at hsl hwl
      generalize topW n ts[j] = tp at HT X KQ x0 KP
      have hzr : szL (fun t => sz n t) (ts.drop (j + 1)) ≤ 16384 := by omega
      generalize hZr : szL (fun t => sz n t) (ts.drop (j + 1)) = Zr at hsl hzr
      have hii : ((j : Nat) : Int) < (ts.length : Int) := by omega
      have hi0 : (0 : Int) ≤ ((j : Nat) : Int) := by omega
      clear e0 e1 e2 hk2 HK rk HI HV HG
      have z0 : (bs T0).size = T0.length := bs_sz T0
      have z1 : (bs s).size = s.length := bs_sz s
      by_cases hj0 : j = 0
      · have q0 : ((((j : Nat) : Int)) == 0) = true := by simp; omega
        have HJ := Lib.hid hj0
        clear hj0
        go_wp2_with (first
          | (go_at_call 59; refine KP.out.mono ?_; rintro e w1 ⟨rfl, b1⟩; obtain ⟨y0, y1, y2, y3⟩ := X.out _ b1))
        cases hp : prn 6 tp with
        | true =>
          rw [hp] at HT KQ
          go_quiet ((go_at_call 64; exact Calls.quiet_of_same (KQ.out _)))
          go_wp2
          have ht : T1 = 40 :: (T0 ++ [41]) := by rw [HT.out]; rfl
          refine ⟨⟨j + 1, 33 :: T1, ?_, by go_num, by omega, Lib.hid ?_, ?_, One.drewN b1 _⟩, by simp [intOf] <;> omega⟩
          · rw [ht, s_par, s_not]
          · rw [← HV'.out]; rfl
          · have hl1 : T1.length ≤ T0.length + 2 := by rw [ht]; simp
            rw [hZr]
            rw [List.length_cons]; omega
        | false =>
          rw [hp] at HT KQ
          go_quiet ((go_at_call 64; exact Calls.quiet_of_same (KQ.out _)))
          go_wp2
          have ht : T1 = T0 := by rw [HT.out]; rfl
          refine ⟨⟨j + 1, 33 :: T1, ?_, by go_num, by omega, Lib.hid ?_, ?_, One.drewN b1 _⟩, by simp [intOf] <;> omega⟩
          · rw [ht, s_not]
          · rw [← HV'.out]; rfl
          · have hl1 : T1.length ≤ T0.length + 2 := by rw [ht]; omega
            rw [hZr]
            rw [List.length_cons]; omega
      · have q0 : ((((j : Nat) : Int)) == 0) = false := by simp; omega
        have HJ := Lib.hid hj0
        clear hj0
        go_wp2_with (first
          | (go_at_call 59; refine KP.out.mono ?_; rintro e w1 ⟨rfl, b1⟩; obtain ⟨y0, y1, y2, y3⟩ := X.out _ b1))
        cases hp : prn 6 tp with
        | true =>
          rw [hp] at HT KQ
          go_quiet ((go_at_call 64; exact Calls.quiet_of_same (KQ.out _)))
          go_wp2
          have ht : T1 = 40 :: (T0 ++ [41]) := by rw [HT.out]; rfl
          refine ⟨⟨j + 1, 33 :: T1, ?_, by go_num, by omega, Lib.hid ?_, ?_, One.drewN b1 _⟩, by simp [intOf] <;> omega⟩
          · rw [ht, s_par, s_not]
          · rw [← HV'.out]; rfl
          · have hl1 : T1.length ≤ T0.length + 2 := by rw [ht]; simp
            rw [hZr]
            rw [List.length_cons]; omega
        | false =>
          rw [hp] at HT KQ
          go_quiet ((go_at_call 64; exact Calls.quiet_of_same (KQ.out _)))
          go_wp2
          have ht : T1 = T0 := by rw [HT.out]; rfl
          refine ⟨⟨j + 1, 33 :: T1, ?_, by go_num, by omega, Lib.hid ?_, ?_, One.drewN b1 _⟩, by simp [intOf] <;> omega⟩
          · rw [ht, s_not]
          · rw [← HV'.out]; rfl
          · have hl1 : T1.length ≤ T0.length + 2 := by rw [ht]; omega
            rw [hZr]
            rw [List.length_cons]; omega
    · have hje : j = ts.length := by omega
      have hv := HV.out
      rw [hje, List.drop_length] at hv
      have HW := Lib.hid hv
      clear hv HV
      go_wp2_with fail
      go_ret
      exact ⟨by rw [← HW.out]; rfl, hbw⟩
end Go.Proofs.YtcbplamomhimiaaDoor
