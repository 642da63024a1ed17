/- A wrapper that answers for some by itself, and one that is open: their methods; then all methods of a chain's levels; what is asked of the world: the table of words as its text lays it. -/
import Derived.Test.YtcbplamomhimiaaDoorUq
namespace Go.Proofs.YtcbplamomhimiaaDoor
open Go.RowKit

set_option maxRecDepth 100000 in
set_option maxHeartbeats 2000000 in
theorem gvg_giv_f (l : Value) (o : Nat) (t : TypeId) (z : Value) (hl : l = .iface t z) (w : World) : Calls Tryd.prog 84 #[.agg #[l, .int .u32 (o : Nat)]] w fun e w' => e = .returned (.int .u32 (o : Nat)) ∧ Below w.heap.size w w' := by
  subst hl
  go_enter Tryd.func84, Tryd.ntmps84
  go_wp2
  go_ret
  exact ⟨rfl, by first | exact below1 _ _ | exact Below.refl _ _⟩
set_option maxRecDepth 100000 in
set_option maxHeartbeats 2000000 in
theorem gvg_shw_f {d n o : Nat} {l : Value} (ho : o < 4294967296) (hd : d < 224) (hn : n < 4294967296) (h : MC d l "conduit/shown.shows" [] (.int .u32 n)) (w : World) (hN : Wds w) :
    Calls Tryd.prog 85 #[.agg #[l, .int .u32 (o : Nat)]] w fun e w' => e = .returned (.int .u32 (n ||| o : Nat)) ∧ Below w.heap.size w w' := by
  have e1 := (u32_bits n o hn ho).2.1
  obtain ⟨t, z, F, z', rfl, hmm, hcf, hC⟩ := h.get hd
  have hmf := mkf
  have K : Hid (∀ wx, On w (.cells #[.iface t z, .int .u32 (o : Nat)] 84) wx → Calls Tryd.prog F #[z'] wx fun e w' => e = .returned (.int .u32 n) ∧ On w (.cells #[.iface t z, .int .u32 (o : Nat)] 84) w') := fun wx hx => (hC.out wx (hN.below hx.below)).mono fun e w' ⟨a, b⟩ => ⟨a, hx.step b⟩
  have HS : Hid (∀ wx, On w (.cells #[.iface t z, .int .u32 (o : Nat)] 84) wx → wx.cell? ⟨w.heap.size, 0, none⟩ = some (.iface t z) ∧ wx.cell? ⟨w.heap.size, 1, none⟩ = some (.int .u32 (o : Nat))) := fun wx h => ⟨h.cell 0, h.cell 1⟩
  have b0 := On.start w (.cells #[.iface t z, .int .u32 (o : Nat)] 84)
  clear hN hC h
  go_enter Tryd.func85, Tryd.ntmps85
  go_wp2_with fail
  go_region_held3 (fun w' => w'.cell? ⟨w.heap.size, 0, none⟩ = some (.iface t z) ∧ w'.cell? ⟨w.heap.size, 1, none⟩ = some (.int .u32 (o : Nat))) (exact HS.out _ (by first | assumption | exact On.drew (by assumption))) (first | (refine (K.out _ (by first | assumption | exact On.drew (by assumption))).mono ?_; rintro e wa ⟨rfl, ba⟩))
  all_goals go_wp2
  all_goals go_ret
  all_goals exact ⟨rfl, On.below (by first | assumption | exact On.drew (by assumption))⟩
set_option maxRecDepth 100000 in
set_option maxHeartbeats 2000000 in
theorem gvg_ans_f {d n o a : Nat} {l : Value} (k : Int) (ho : o < 4294967296) (hd : d < 224) (h1 : MC d l "conduit/shown.number" [] (.int .i64 n)) (h2 : MC d l "conduit/shown.answers" [.int .i64 k] (.int .i64 a)) (w : World) (hN : Wds w) :
    Calls Tryd.prog 83 #[.agg #[l, .int .u32 (o : Nat)], .int .i64 k] w fun e w' => e = .returned (.int .i64 (if hs o k = true then n else a : Nat)) ∧ Below w.heap.size w w' := by
  have hmf := mkf
  have KH : Hid (∀ W, Wds W → Calls Tryd.prog 36 #[.int .u32 (o : Nat), .int .i64 k] W fun e w' => e = .returned (.bool (hs o k)) ∧ w' = W) := fun W h => phas_any o k ho W h
  cases hb : hs o k with
  | true =>
    rw [if_pos rfl]
    rw [hb] at KH
    clear hb h2
    obtain ⟨t, z, F, z', rfl, hmm, hcf, hC⟩ := h1.get hd
    have b0 := On.start w (.cells #[.iface t z, .int .u32 (o : Nat)] 84)
    have K : Hid (∀ wx, On w (.cells #[.iface t z, .int .u32 (o : Nat)] 84) wx → Calls Tryd.prog F #[z'] wx fun e w' => e = .returned (.int .i64 n) ∧ On w (.cells #[.iface t z, .int .u32 (o : Nat)] 84) w') := fun wx hx => (hC.out wx (hN.below hx.below)).mono fun e w' ⟨a, b⟩ => ⟨a, hx.step b⟩
    have hN1 := hN.below b0.below
    clear hN hC h1
    go_enter Tryd.func83, Tryd.ntmps83
    go_wp2_with (first
      | (go_at_call 36; refine (KH.out _ hN1).mono ?_; rintro e w2 ⟨rfl, rfl⟩)
      | fail)
    refine (K.out _ b0).mono ?_
    rintro e w1 ⟨rfl, b1⟩
    go_wp2
    go_ret
    exact ⟨rfl, b1.below⟩
  | false =>
    rw [if_neg (by simp)]
    rw [hb] at KH
    clear hb h1
    obtain ⟨t, z, F, z', rfl, hmm, hcf, hC⟩ := h2.get hd
    have b0 := On.start w (.cells #[.iface t z, .int .u32 (o : Nat)] 84)
    have K : Hid (∀ wx, On w (.cells #[.iface t z, .int .u32 (o : Nat)] 84) wx → Calls Tryd.prog F #[z', .int .i64 k] wx fun e w' => e = .returned (.int .i64 a) ∧ On w (.cells #[.iface t z, .int .u32 (o : Nat)] 84) w') := fun wx hx => (hC.out wx (hN.below hx.below)).mono fun e w' ⟨a, b⟩ => ⟨a, hx.step b⟩
    have hN1 := hN.below b0.below
    clear hN hC h2
    go_enter Tryd.func83, Tryd.ntmps83
    go_wp2_with (first
      | (go_at_call 36; refine (KH.out _ hN1).mono ?_; rintro e w2 ⟨rfl, rfl⟩)
      | fail)
    refine (K.out _ b0).mono ?_
    rintro e w1 ⟨rfl, b1⟩
    go_wp2
    go_ret
    exact ⟨rfl, b1.below⟩

/-! ### levels -/
/-- A level: its number, what it shows, who answers there. -/
structure LV (d : Nat) (v : Value) (n s : Nat) (a : Int → Nat) : Prop where
  num : MC d v "conduit/shown.number" [] (.int .i64 n)
  shw : MC d v "conduit/shown.shows" [] (.int .u32 s)
  ans : ∀ k, MC d v "conduit/shown.answers" [.int .i64 k] (.int .i64 (a k : Nat))
theorem LV.mono {d e : Nat} {v : Value} {n s : Nat} {a : Int → Nat} (h : LV d v n s a) (hd : d ≤ e) : LV e v n s a := ⟨h.num.mono hd, h.shw.mono hd, fun k => (h.ans k).mono hd⟩
theorem lv_core (c : Nat) : LV 0 (lev c []) 0 c (fun _ => 0) := ⟨core_num c, core_shw c, fun k => core_ans c k⟩
theorem lv_thr {d n s : Nat} {u : Value} {a : Int → Nat} (hd : d < 224) (hn : n < 1000) (hs : s < 4294967296) (h : LV d u n s a) : LV (d + 1) (thr u) (n + 1) (andN s 1024) a :=
  ⟨(thr_num hd hn h.num).mono (by omega), (thr_shw hd hs h.shw).mono (by omega), fun k => up_ans_thr (h.ans k)⟩
theorem lv_sgl {d n s : Nat} {u : Value} {a : Int → Nat} (hd : d < 224) (hn : n < 1000) (hs : s < 4294967296) (h : LV d u n s a) : LV (d + 1) (sgl u) (n + 1) (andN (andN s 1024) 4) a :=
  ⟨(sgl_num hd hn h.num).mono (by omega), (sgl_shw hd hs h.shw).mono (by omega), fun k => up_ans_sgl (h.ans k)⟩
theorem lv_hid {d n s : Nat} {u : Value} {a : Int → Nat} (hd : d < 224) (hn : n < 1000) (h : LV d u n s a) : LV (d + 1) (.iface 103 (.agg #[u])) (n + 1) 0 a :=
  ⟨(hid_num hd hn h.num).mono (by omega), hid_shw.mono (by omega), fun k => up_ans_hid (h.ans k)⟩
theorem lv_msk {d n s o : Nat} {u : Value} {a : Int → Nat} (ho : o < 4294967296) (hd : d < 224) (hn : n < 1000) (hs : s < 4294967296) (h : LV d u n s a) : LV (d + 1) (.iface 102 (.agg #[u, .int .u32 (o : Nat)])) (n + 1) (andN s 1024 &&& o) a :=
  ⟨(msk_num hd hn h.num).mono (by omega), (msk_shw ho hd hs h.shw).mono (by omega), fun k => up_ans_msk (h.ans k)⟩
theorem lv_gvg {d n s o : Nat} {l : Value} {a : Int → Nat} (ho : o < 4294967296) (hd : d < 224) (hn : s < 4294967296) (h : LV d l n s a) : LV (d + 1) (gvg l o) n (s ||| o) (fun k => if hs o k = true then n else a k) :=
  ⟨up_num_gvg h.num,
   (mc_real 84 _ 85 (.agg #[l, .int .u32 o]) (fun _ _ => by kernel_rfl) (fun _ _ => by kernel_rfl) (fun w hN => gvg_shw_f ho hd hn h.shw w hN) 0).mono (by omega),
   fun k => (mc_real 84 _ 83 (.agg #[l, .int .u32 o]) (fun _ _ => by kernel_rfl) (fun _ _ => by kernel_rfl) (fun w hN => gvg_ans_f k ho hd h.num (h.ans k) w hN) 0).mono (by omega)⟩
theorem lv_opd {d n s o : Nat} {l u : Value} {a : Int → Nat} (ho : o < 4294967296) (hd : d < 224) (hn : s < 4294967296) (h : LV d l n s a) : LV (d + 1) (opd l o u) n (s ||| o) (fun k => if hs o k = true then n else a k) :=
  ⟨up_num_opd h.num,
   (mc_real 86 _ 85 (.agg #[l, .int .u32 o]) (fun _ _ => by kernel_rfl) (fun _ _ => by kernel_rfl) (fun w hN => gvg_shw_f ho hd hn h.shw w hN) 0).mono (by omega),
   fun k => (mc_real 86 _ 83 (.agg #[l, .int .u32 o]) (fun _ _ => by kernel_rfl) (fun _ _ => by kernel_rfl) (fun w hN => gvg_ans_f k ho hd h.num (h.ans k) w hN) 0).mono (by omega)⟩
theorem LV.eqs {d n s s' : Nat} {v : Value} {a a' : Int → Nat} (h : LV d v n s a) (e1 : s = s') (e2 : ∀ k, a k = a' k) : LV d v n s' a' := by
  obtain rfl := e1
  obtain rfl : a = a' := funext e2
  exact h
theorem hs_zero (k : Int) : hs 0 k = false := by unfold hs; simp
theorem lv_clo {d n s : Nat} {u : Value} {a : Int → Nat} (x : Wr) (hx : x.cp < 1024) (hd : d + 2 < 224) (hn : n < 1000) (hs' : s < 2048) (h : LV d u n s a) :
    LV (d + 2) (clo u x) (n + 1) (kp x s ||| own x) (fun k => if hs (own x) k = true then n + 1 else a k) := by
  have z0 : ∀ k, a k = if hs 0 k = true then n + 1 else a k := fun k => by rw [hs_zero]; rfl
  have l1 := (lv_thr (by omega) hn (by omega) h)
  have l2 := (lv_sgl (by omega) hn (by omega) h)
  have k1 : andN s 1024 < 4294967296 := andN_lt _ _ (by omega)
  have k2 : andN (andN s 1024) 4 < 4294967296 := andN_lt _ _ k1
  obtain ⟨op, cp, on⟩ := x
  by_cases q1 : op = 5 ∨ op = 6 ∨ op = 10 ∨ op = 11
  · have o0 : own ⟨op, cp, on⟩ = 0 := by simp only [own]; repeat' (rw [if_neg (by omega)])
    rw [show clo u ⟨op, cp, on⟩ = sgl u by simp only [clo]; rw [if_pos q1], o0, show kp ⟨op, cp, on⟩ s = andN (andN s 1024) 4 by simp only [kp]; rw [if_pos (by omega)]]
    exact (l2.mono (by omega)).eqs (by simp) z0
  by_cases q2 : op = 2
  · subst q2
    exact ((lv_msk (by show cp < _; simp at hx; omega) (by omega) hn (by omega) h).mono (by omega)).eqs (by simp [kp, own]) z0
  by_cases q3 : op = 3
  · subst q3
    exact ((lv_hid (by omega) hn h).mono (by omega)).eqs (by simp [kp, own]) z0
  by_cases q4 : op = 4
  · subst q4
    exact (lv_gvg (by show cp < _; simp at hx; omega) (by omega) k1 l1).eqs (by simp [kp, own]) (fun k => rfl)
  by_cases q7 : op = 7
  · subst q7
    exact (lv_gvg (by decide) (by omega) k2 l2).eqs (by simp [kp, own]) (fun k => rfl)
  by_cases q8 : op = 8
  · subst q8
    exact (lv_gvg (by decide) (by omega) k2 l2).eqs (by simp [kp, own]) (fun k => rfl)
  by_cases q9 : op = 9
  · subst q9
    exact (lv_gvg (by decide) (by omega) k1 l1).eqs (by simp [kp, own]) (fun k => rfl)
  by_cases q12 : op = 12
  · subst q12
    exact (lv_gvg (by decide) (by omega) k1 l1).eqs (by simp [kp, own]) (fun k => rfl)
  have o0 : own ⟨op, cp, on⟩ = 0 := by simp only [own]; repeat' (rw [if_neg (by omega)])
  rw [show clo u ⟨op, cp, on⟩ = thr u by simp only [clo]; repeat' (rw [if_neg (by omega)]), o0, show kp ⟨op, cp, on⟩ s = andN s 1024 by simp only [kp]; repeat' (rw [if_neg (by omega)])]
  exact (l1.mono (by omega)).eqs (by simp) z0
theorem hs_or (a b : Nat) (k : Int) : hs (a ||| b) k = (hs a k || hs b k) := by
  unfold hs; rw [Nat.testBit_or]; cases decide (0 ≤ k ∧ k < 11) <;> simp
theorem lv_aro {d n s : Nat} {u : Value} {a : Int → Nat} (x : Wr) (hx : x.cp < 1024) (hd : d + 3 < 224) (hn : n < 1000) (hs' : s < 2048) (h : LV d u n s a) :
    LV (d + 3) (aro u x) (n + 1) (kp x s ||| giv x) (fun k => if hs (giv x) k = true then n + 1 else a k) := by
  have c := lv_clo x hx (by omega) hn hs' h
  have ho := own_lt hx
  have hk : kp x s ||| own x < 4294967296 := or_lt (n := 32) (by have := kp_le x s; omega) (by omega)
  unfold aro giv
  cases hon : x.on with
  | true =>
    rw [if_pos rfl, if_pos rfl]
    refine (lv_opd (or_lt (n := 32) (by omega) (by decide)) (by omega) hk c).eqs ?_ (fun k => ?_)
    · rw [← Nat.or_assoc, Nat.or_assoc (kp x s), Nat.or_self, Nat.or_assoc]
    · show (if hs (own x ||| 1024) k = true then n + 1 else if hs (own x) k = true then n + 1 else a k) = _
      by_cases hq : hs (own x ||| 1024) k = true
      · rw [if_pos hq, if_pos hq]
      · have : ¬ hs (own x) k = true := fun h => hq (by rw [hs_or, h]; rfl)
        rw [if_neg hq, if_neg hq, if_neg this]
  | false =>
    rw [if_neg (by simp), if_neg (by simp)]
    exact c.mono (by omega)
theorem lv_lev {c : Nat} (hc : c < 2048) : ∀ {ws : List Wr}, (∀ x ∈ ws, x.cp < 1024) → ws.length ≤ 60 → LV (3 * ws.length) (lev c ws) ws.length (sh c ws) (fun k => an ws k)
  | [], _, _ => lv_core c
  | x :: r, h, hl => by
    have hr := lv_lev hc (ws := r) (fun y hy => h y (List.mem_cons_of_mem _ hy)) (by simp at hl; omega)
    simp at hl
    exact (lv_aro x (h x (by simp)) (by omega) (by omega) (sh_lt hc fun y hy => h y (List.mem_cons_of_mem _ hy)) hr).mono (by simp; omega)
end Go.Proofs.YtcbplamomhimiaaDoor
