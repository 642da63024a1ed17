/- What a wheel is asked, a timer added, and time that goes on; the conditions: the wheel in memory. -/
import Derived.Test.YtignphkfknjllaaDoorWu
namespace Go.Proofs.YtignphkfknjllaaDoor
open Go.RowKit
variable {zf : Bool}

theorem lk_some (LL : List Tm) (i : Int) : (lk (im LL) i).isSome = decide (i ∈ LL.map Tm.i) := by
  unfold lk im
  rw [List.find?_map]
  simp only [Option.isSome_map]
  by_cases c : i ∈ LL.map Tm.i
  · obtain ⟨t, ht, e⟩ := List.mem_map.1 c
    rw [decide_eq_true c]
    simp
    exact ⟨t, ht, e⟩
  · rw [decide_eq_false c]
    simp
    intro t ht e
    exact c (List.mem_map.2 ⟨t, ht, e⟩)
theorem lk_none {LL : List Tm} {i : Int} (h : i ∉ LL.map Tm.i) : lk (im LL) i = none := by
  have := lk_some LL i
  rw [decide_eq_false h] at this
  simpa using this

section
variable {w : World} {b m T : Nat} {LL : List Tm}
theorem Wh.c1 (h : Wh zf w b m T LL) : w.cell? ⟨b, 1, none⟩ = some (.map (some m)) := by obtain ⟨q, mx, ls, us, h⟩ := h; exact h.wl.mp
theorem Wh.c0 (h : Wh zf w b m T LL) : w.cell? ⟨b, 0, none⟩ = some (.int .i64 T) := by obtain ⟨q, mx, ls, us, h⟩ := h; exact h.wl.now
theorem Wh.mp (h : Wh zf w b m T LL) : Mp w m (im LL) := by obtain ⟨q, mx, ls, us, h⟩ := h; exact h.mp
theorem Wh.t (h : Wh zf w b m T LL) : T ≤ 1099511627776 := by obtain ⟨q, mx, ls, us, h⟩ := h; exact h.gd.t
theorem Wh.lo (h : Wh zf w b m T LL) : ∀ t ∈ LL, T < t.a ∧ t.a ≤ 1099511627776 := by obtain ⟨q, mx, ls, us, h⟩ := h; exact h.gd.lo
theorem Wh.nd (h : Wh zf w b m T LL) : (LL.map Tm.i).Nodup := by obtain ⟨q, mx, ls, us, h⟩ := h; exact h.gd.nd

set_option maxRecDepth 100000 in
theorem waits_any (h : Wh zf w b m T LL) (i : Int) : Calls Tryd.prog 30 #[.pointer (some ⟨b, 0, none⟩), .int .i64 i] w fun e w' => e = .returned (.bool (decide (i ∈ LL.map Tm.i))) ∧ w' = w := by
  have c1 := h.c1
  have lo := look_mp w m (im LL) h.mp i true
  rw [lk_some] at lo
  simp only [if_true] at lo
  generalize decide (i ∈ LL.map Tm.i) = B at *
  generalize Option.map (fun b => (⟨b, 0, none⟩ : Addr)) (lk (im LL) i) = A at *
  clear h
  go_enter Tryd.func30, Tryd.ntmps30
  go_wp2
  go_ret
  exact ⟨rfl, rfl⟩
set_option maxRecDepth 100000 in
theorem now_any (h : Wh zf w b m T LL) : Calls Tryd.prog 13 #[.pointer (some ⟨b, 0, none⟩)] w fun e w' => e = .returned (.int .i64 T) ∧ w' = w := by
  have c0 := h.c0
  have HM := Lib.hid (made_yes b m w h.c1)
  clear h
  go_enter Tryd.func13, Tryd.ntmps13
  go_wp2_with (go_at_call 25; refine HM.out.mono ?_; rintro e w9 ⟨rfl, hw9⟩; rw [hw9]; clear hw9 w9)
  go_ret
  exact ⟨rfl, rfl⟩
set_option maxRecDepth 100000 in
theorem len_any (h : Wh zf w b m T LL) : Calls Tryd.prog 17 #[.pointer (some ⟨b, 0, none⟩)] w fun e w' => e = .returned (.int .i64 LL.length) ∧ w' = w := by
  have c1 := h.c1
  have HM := Lib.hid (made_yes b m w h.c1)
  obtain ⟨es, ck, h1, h2⟩ := h.mp
  have hg : (getObj m).run Tryd.prog w = .ok (.map es ck) w := by simp [getObj, Sem.run, h1]
  have hl : es.size = LL.length := by
    have := congrArg List.length h2
    simpa [im] using this
  have hlen : (Builtin.len_ #[47] 3 #[.map (some m)]).run Tryd.prog w = .ok (.int .i64 LL.length) w := by
    simp [Builtin.len_, Sem.run_bind, run_underlying underM, hg, goInt, hl]
  clear h h1 h2 hg hl
  go_enter Tryd.func17, Tryd.ntmps17
  go_wp2_with (go_at_call 25; refine HM.out.mono ?_; rintro e w9 ⟨rfl, hw9⟩; rw [hw9]; clear hw9 w9)
  go_ret
  exact ⟨rfl, rfl⟩
/-- The tick that it is behind Go. -/
def gt (T : Nat) (x : Int) : Nat := (max (T : Int) (min x 1099511627776)).toNat
set_option maxRecDepth 100000 in
set_option maxHeartbeats 1000000 in
theorem go_any (h : Wh zf w b m T LL) (x : Int) (hlen : LL.length ≤ 8796093022208) (hT : Tb w) (h0 : ¬ OwL b m LL 0) : Calls Tryd.prog 15 #[.pointer (some ⟨b, 0, none⟩), .int .i64 x] w fun e w' => ∃ sl F, e = .returned sl ∧ FR w' w.heap.size F sl ∧ Fd LL (gt T x) F ∧ Wh zf w' b m (gt T x) (lat (gt T x) LL) ∧ But (OwL b m LL) w w' := by
  have c0 := h.c0
  have HM := Lib.hid (made_yes b m w h.c1)
  have hTT := h.t
  have hlo : ∀ t ∈ LL, T < t.a := fun t ht => (h.lo t ht).1
  by_cases hc : min x 1099511627776 ≤ (T : Int)
  · have hg : gt T x = T := by unfold gt; omega
    rw [hg, lat_all hlo]
    have F0 := Lib.hid (Fd.zero hlo)
    have H := Lib.hid h
    clear h hlo
    go_enter Tryd.func15, Tryd.ntmps15
    go_wp2_with (go_at_call 25; refine HM.out.mono ?_; rintro e w9 ⟨rfl, hw9⟩; rw [hw9]; clear hw9 w9)
    go_ret
    exact ⟨_, [], rfl, FR.nil w _, F0.out, H.out, But.refl _ _⟩
  · have hg : ((gt T x : Nat) : Int) = min x 1099511627776 := by unfold gt; omega
    have h1 : T < gt T x := by omega
    have h2 : gt T x ≤ 1099511627776 := by omega
    have HT := Lib.hid (turn_any h h1 h2 hlen hT h0)
    rw [← hg] at hc
    have hc' : ¬ ((gt T x : Nat) : Int) ≤ (T : Int) := hc
    have hgs := hg.symm
    clear h hg hlo hT
    generalize gt T x = U at *
    go_enter Tryd.func15, Tryd.ntmps15
    go_wp2_with (first | (go_at_call 25; refine HM.out.mono ?_; rintro e w9 ⟨rfl, hw9⟩; rw [hw9]; clear hw9 w9) | (go_at_call 26; refine HT.out.mono ?_; rintro e w2 ⟨sl, F, rfl, r1, r2, r3, r4⟩))
    go_ret
    exact ⟨sl, F, rfl, r1, r2, r3, r4⟩
/-- The tick for which an added one waits. -/
def ad (T : Nat) (x : Int) : Int := max x ((T : Int) + 1)
/-- What Add leaves. -/
def Ad (zf : Bool) (w : World) (b m T : Nat) (LL : List Tm) (x i : Int) (e : Ending) (w' : World) : Prop :=
  (e = .returned (.bool false) ∧ (i ∈ LL.map Tm.i ∨ 1099511627776 < ad T x) ∧ w' = w) ∨
  (e = .returned (.bool true) ∧ i ∉ LL.map Tm.i ∧ ad T x ≤ 1099511627776 ∧ Wh zf w' b m T (LL ++ [⟨w.heap.size, (ad T x).toNat, i⟩]) ∧ But (OwL b m LL) w w')
theorem Wl.map {q : Nat → List Tm} {mx : Nat → Bool} {ls : Nat → Int} {us : Nat → Nat} (h : Wl w b m T q mx ls us) {w' : World} {l : List (Int × Nat)} (hm : Mp w m l) (g : w.grownBy w' (some m)) : Wl w' b m T q mx ls us := by
  refine h.but (C := fun B => B = m) (But.grown g (fun k e _ => by cases e; rfl)) (fun B c o => ?_)
  rcases o with o | ⟨k, t, hk, ht, o⟩
  · exact hm.ne h.wm.bb (o.symm.trans c)
  · exact hm.ne (h.wm.tb k t hk ht) (o.trans c)
set_option maxRecDepth 100000 in
set_option maxHeartbeats 1000000 in
theorem add_any (h : Wh zf w b m T LL) (x i : Int) : Calls Tryd.prog 20 #[.pointer (some ⟨b, 0, none⟩), .int .i64 x, .int .i64 i] w (Ad zf w b m T LL x i) := by
  have c0 := h.c0
  have c1 := h.c1
  have HM := Lib.hid (made_yes b m w h.c1)
  have HW := Lib.hid (waits_any h i)
  have hTT := h.t
  by_cases hi : i ∈ LL.map Tm.i
  · have hd : decide (i ∈ LL.map Tm.i) = true := decide_eq_true hi
    have HI := Lib.hid hi
    have W2 : Hid (Calls Tryd.prog 30 #[.pointer (some ⟨b, 0, none⟩), .int .i64 i] w fun e w' => e = .returned (.bool true) ∧ w' = w) := Lib.hid (by rw [hd] at HW; exact HW.out)
    clear h HW hd hi
    go_enter Tryd.func20, Tryd.ntmps20
    go_wp2_with (first | (go_at_call 25; refine HM.out.mono ?_; rintro e w9 ⟨rfl, hw9⟩; rw [hw9]; clear hw9 w9) | (go_at_call 30; refine W2.out.mono ?_; rintro e w9 ⟨rfl, hw9⟩; rw [hw9]; clear hw9 w9))
    go_ret
    exact .inl ⟨rfl, .inl HI.out, rfl⟩
  · have hd : decide (i ∈ LL.map Tm.i) = false := decide_eq_false hi
    have HI := Lib.hid hi
    have W2 : Hid (Calls Tryd.prog 30 #[.pointer (some ⟨b, 0, none⟩), .int .i64 i] w fun e w' => e = .returned (.bool false) ∧ w' = w) := Lib.hid (by rw [hd] at HW; exact HW.out)
    clear HW hd hi
    by_cases hx : 1099511627776 < ad T x
    · have hx' : (1099511627776 : Int) < max x ((T : Int) + 1) := hx
      clear h
      go_enter Tryd.func20, Tryd.ntmps20
      go_wp2_with (first | (go_at_call 25; refine HM.out.mono ?_; rintro e w9 ⟨rfl, hw9⟩; rw [hw9]; clear hw9 w9) | (go_at_call 30; refine W2.out.mono ?_; rintro e w9 ⟨rfl, hw9⟩; rw [hw9]; clear hw9 w9))
      go_ret
      exact .inl ⟨rfl, .inr hx, rfl⟩
    · have hx' : ¬ (1099511627776 : Int) < max x ((T : Int) + 1) := hx
      have hA : max x ((T : Int) + 1) = (((ad T x).toNat : Nat) : Int) := by unfold ad; omega
      have hA1 : T < (ad T x).toNat := by unfold ad at *; omega
      have hA2 : (ad T x).toNat ≤ 1099511627776 := by omega
      have hAx : ad T x ≤ 1099511627776 := by omega
      rw [hA] at hx'
      obtain ⟨q, mx, ls, us, ws⟩ := h
      have hbl := ws.wl.lt (.inl rfl)
      have hml := ws.mp.lt
      have B1 := below1 w (.cells #[.pointer none, .pointer none, .int .i64 ((ad T x).toNat : Nat), .int .i64 i] 71)
      have N1 := Bk.new w #[.pointer none, .pointer none, .int .i64 ((ad T x).toNat : Nat), .int .i64 i] 71
      have hmp1 := ws.mp.blk (B1.block m hml)
      obtain ⟨w2, hrun, m2, g2, z2⟩ := upd_mp _ m (im LL) hmp1 i w.heap.size (lk_none HI.out)
      have W1 := (ws.wl.below B1).map hmp1 g2
      have N2 := (g2.block w.heap.size (by simp) (fun e => by have := Option.some.inj e; omega)).trans N1
      have hfresh : ∀ k t', k < 448 → t' ∈ q k → t'.b ≠ w.heap.size := fun k t' hk ht => by
        have := ws.wl.lt (.inr ⟨k, t', hk, ht, rfl⟩); omega
      have HP := Lib.hid (wput_any W1 ⟨w.heap.size, (ad T x).toNat, i⟩ (.pointer none) (.pointer none) hTT hA2 ws.gd.ul ⟨_, N2⟩ (Bk.c N2 0) (Bk.c N2 1) (Bk.c N2 2) (Bk.c N2 3) hfresh)
      have k1 : (w.alloc (.cells #[.pointer none, .pointer none, .int .i64 ((ad T x).toNat : Nat), .int .i64 i] 71)).cell? ⟨b, 1, none⟩ = some (.map (some m)) := (ws.wl.below B1).mp
      have WS := Lib.hid ws
      have FIN : Hid (∀ w3, Wl w3 b m T (up q (plc T (ad T x).toNat) (q (plc T (ad T x).toNat) ++ [⟨w.heap.size, (ad T x).toNat, i⟩])) (at' mx (plc T (ad T x).toNat) (putm (q (plc T (ad T x).toNat)) ⟨w.heap.size, (ad T x).toNat, i⟩ (mx (plc T (ad T x).toNat)) (ls (plc T (ad T x).toNat))).1) (at' ls (plc T (ad T x).toNat) (putm (q (plc T (ad T x).toNat)) ⟨w.heap.size, (ad T x).toNat, i⟩ (mx (plc T (ad T x).toNat)) (ls (plc T (ad T x).toNat))).2) (at' us (lev T (ad T x).toNat) (us (lev T (ad T x).toNat) ||| 2 ^ slo T (ad T x).toNat)) → But (fun B => Own b q B ∨ B = w.heap.size) w2 w3 → Wh zf w3 b m T (LL ++ [⟨w.heap.size, (ad T x).toNat, i⟩]) ∧ But (OwL b m LL) w w3) := Lib.hid (fun w3 hw3 hb3 => by
        refine ⟨⟨_, _, _, _, hw3, ws.gd.add ⟨w.heap.size, (ad T x).toNat, i⟩ hA1 hA2 HI.out, fun k hk => ?_, fun hz k hk => ?_, ?_⟩, ?_⟩
        · by_cases c : k = plc T (ad T x).toNat
          · subst c; rw [up_same, at_same, at_same]; exact (ws.ma _ hk).put _
          · rw [up_other _ _ c, at_other _ _ c, at_other _ _ c]; exact ws.ma k hk
        · by_cases c : k = plc T (ad T x).toNat
          · subst c; rw [up_same, at_same, at_same]; exact (ws.st hz _ hk).put (ws.ma _ hk) _ (fun y hy => by have := (ws.gd.lo y (ws.gd.mem hk hy).1).1; omega) (by show 0 < (ad T x).toNat; omega)
          · rw [up_other _ _ c, at_other _ _ c, at_other _ _ c]; exact ws.st hz k hk
        · have : im (LL ++ [⟨w.heap.size, (ad T x).toNat, i⟩]) = im LL ++ [(i, w.heap.size)] := by simp [im]
          rw [this]
          refine m2.blk (hb3.block m m2.lt ?_)
          rintro (c | c)
          · rcases c with c | ⟨k, t, hk, ht, c⟩
            · exact m2.ne W1.wm.bb c.symm
            · exact m2.ne (W1.wm.tb k t hk ht) c
          · omega
        · refine ((But.of_below (C := OwL b m LL) B1).trans (But.grown (C := OwL b m LL) g2 (fun k e _ => by cases e; exact .inr (.inl rfl))) (fun _ _ c => c)).trans hb3 (fun k hk c => ?_)
          rcases c with c | c
          · exact ws.gd.own c
          · omega)
      clear ws hmp1 W1 N1 N2 m2 g2 z2 B1 hfresh hA1 hA2
      generalize hAA : (ad T x).toNat = A at *
      have AA := Lib.hid hAA
      clear hAA
      go_enter Tryd.func20, Tryd.ntmps20
      go_wp2_with (first | (go_at_call 25; refine HM.out.mono ?_; rintro e w9 ⟨rfl, hw9⟩; rw [hw9]; clear hw9 w9) | (go_at_call 30; refine W2.out.mono ?_; rintro e w9 ⟨rfl, hw9⟩; rw [hw9]; clear hw9 w9) | (go_at_call 32; refine HP.out.mono ?_; rintro e w3 ⟨rfl, hw3, hb3⟩))
      go_ret
      obtain ⟨r1, r2⟩ := FIN.out w3 hw3 hb3
      exact .inr ⟨rfl, HI.out, hAx, by rw [AA.out]; exact r1, r2⟩
end
end Go.Proofs.YtignphkfknjllaaDoor
