/- Time goes on from slot to slot; the conditions: the wheel and the table of least bits in memory. -/
import Derived.Test.YtignphkfknjllaaDoorWq
import Derived.Scope
namespace Go.Proofs.YtignphkfknjllaaDoor
open Go.RowKit
variable {zf : Bool}

/-- What has fired up to a tick: in order, and of each tick just those that waited for it. -/
def Fd (LL : List Tm) (U : Nat) (F : List Tm) : Prop := (F.Pairwise fun x y => x.a ≤ y.a) ∧ ∀ a, fl a F = if a ≤ U then fl a LL else []
def lat (U : Nat) (LL : List Tm) : List Tm := LL.filter fun t => decide (U < t.a)
theorem Fd.mem {LL F : List Tm} {U : Nat} (h : Fd LL U F) {t : Tm} (ht : t ∈ F) : t.a ≤ U ∧ t ∈ LL := by
  have h1 : t ∈ fl t.a F := mem_fl.2 ⟨ht, rfl⟩
  rw [h.2] at h1
  by_cases c : t.a ≤ U
  · rw [if_pos c] at h1; exact ⟨c, (mem_fl.1 h1).1⟩
  · rw [if_neg c] at h1; simp at h1
theorem Fd.zero {LL : List Tm} {T : Nat} (h : ∀ t ∈ LL, T < t.a) : Fd LL T [] := by
  refine ⟨List.Pairwise.nil, fun a => ?_⟩
  by_cases c : a ≤ T
  · rw [if_pos c]; symm; exact fl_nil_of fun t ht => by have := h t ht; omega
  · rw [if_neg c]; rfl
theorem lat_all {LL : List Tm} {T : Nat} (h : ∀ t ∈ LL, T < t.a) : lat T LL = LL := by
  unfold lat; rw [List.filter_eq_self]; intro t ht; simpa using h t ht
theorem mem_lat {U : Nat} {LL : List Tm} {t : Tm} : t ∈ lat U LL ↔ t ∈ LL ∧ U < t.a := by simp [lat]
theorem Fd.step {LL F : List Tm} {T T' : Nat} (h : Fd LL T F) (h1 : T < T') (h2 : ∀ t ∈ lat T LL, T' ≤ t.a) : Fd LL T' (F ++ fl T' (lat T LL)) ∧ (lat T LL).filter (fun t => t.a != T') = lat T' LL := by
  have hmid : ∀ a, T < a → a < T' → fl a LL = [] := fun a ha hb => fl_nil_of fun t ht e => by
    have := h2 t (mem_lat.2 ⟨ht, by omega⟩); omega
  refine ⟨⟨?_, fun a => ?_⟩, ?_⟩
  · rw [List.pairwise_append]
    refine ⟨h.1, ?_, fun x hx y hy => ?_⟩
    · refine List.Pairwise.imp_of_mem (R := fun _ _ => True) (fun {x y} hx hy _ => ?_) (List.pairwise_of_forall (fun _ _ => trivial))
      rw [(mem_fl.1 hx).2, (mem_fl.1 hy).2]; exact Nat.le_refl _
    · have := (h.mem hx).1
      have := (mem_fl.1 hy).2
      omega
  · rw [fl_app, h.2 a]
    by_cases e : a = T'
    · subst e
      rw [if_neg (by omega), if_pos (Nat.le_refl _), List.nil_append]
      unfold fl lat
      rw [List.filter_filter, List.filter_filter]
      apply List.filter_congr
      intro t _
      by_cases c : t.a = a
      · simp [c, h1]
      · simp [c]
    · have h3 : fl a (fl T' (lat T LL)) = [] := fl_nil_of fun t ht c => e (by rw [← c, (mem_fl.1 ht).2])
      rw [h3, List.append_nil]
      by_cases c : a ≤ T
      · rw [if_pos c, if_pos (by omega)]
      · rw [if_neg c]
        by_cases c2 : a ≤ T'
        · rw [if_pos c2, hmid a (by omega) (by omega)]
        · rw [if_neg c2]
  · unfold lat
    rw [List.filter_filter]
    apply List.filter_congr
    intro t ht
    by_cases c : T < t.a
    · have := h2 t (mem_lat.2 ⟨ht, c⟩)
      by_cases d : t.a = T'
      · simp [d]
      · have : T' < t.a := by omega
        simp [c, d, this]
    · have : ¬ T' < t.a := by omega
      simp [c, this]
theorem Fd.stop {LL F : List Tm} {T U : Nat} (h : Fd LL T F) (h1 : T ≤ U) (h2 : ∀ t ∈ lat T LL, U < t.a) : Fd LL U F ∧ lat T LL = lat U LL := by
  have hmid : ∀ a, T < a → a ≤ U → fl a LL = [] := fun a ha hb => fl_nil_of fun t ht e => by
    have := h2 t (mem_lat.2 ⟨ht, by omega⟩); omega
  refine ⟨⟨h.1, fun a => ?_⟩, ?_⟩
  · rw [h.2 a]
    by_cases c : a ≤ T
    · rw [if_pos c, if_pos (by omega)]
    · rw [if_neg c]
      by_cases c2 : a ≤ U
      · rw [if_pos c2, hmid a (by omega) c2]
      · rw [if_neg c2]
  · unfold lat
    apply List.filter_congr
    intro t ht
    by_cases c : T < t.a
    · have := h2 t (mem_lat.2 ⟨ht, c⟩)
      simp [c, this]
    · have : ¬ U < t.a := by omega
      simp [c, this]
/-- The time of a wheel, as it stands in memory. -/
def nowOf (b : Nat) (w : World) : Nat := match mem w b 0 with
  | some (.int _ n) => n.toNat
  | _ => 0
theorem nowOf_is {w : World} {b T : Nat} (h : mem w b 0 = some (.int .i64 T)) : nowOf b w = T := by unfold nowOf; rw [h]; simp
/-- A level without timers. -/
theorem level_none {T : Nat} {q : Nat → List Tm} {us : Nat → Nat} {LL : List Tm} (g : Gd T q us LL) {i : Nat} (hi : i < 7) (h0 : us i = 0) (hf : ∀ k, k < i * 64 → q k = []) : ∀ k, k < (i + 1) * 64 → q k = [] := fun k hk => by
  rcases Nat.lt_or_ge k (i * 64) with c | c
  · exact hf k c
  · have := g.ub i (k - i * 64) hi (by omega)
    rw [h0, show i * 64 + (k - i * 64) = k by omega] at this
    simpa using this
/-- The first slot of a level with timers. -/
theorem level_some {T : Nat} {q : Nat → List Tm} {us : Nat → Nat} {LL : List Tm} (g : Gd T q us LL) {i : Nat} (hi : i < 7) (h0 : us i ≠ 0) (hf : ∀ k, k < i * 64 → q k = []) : i * 64 + tz 64 (us i) < 448 ∧ tz 64 (us i) < 64 ∧ q (i * 64 + tz 64 (us i)) ≠ [] ∧ ∀ k, k < i * 64 + tz 64 (us i) → q k = [] := by
  obtain ⟨h1, h2, h3⟩ := tz_first h0 (g.ul i hi)
  refine ⟨by omega, h1, ?_, fun k hk => ?_⟩
  · rw [g.ub i _ hi h1] at h2; simpa using h2
  · rcases Nat.lt_or_ge k (i * 64) with c | c
    · exact hf k c
    · have := h3 (k - i * 64) (by omega)
      rw [g.ub i _ hi (by omega), show i * 64 + (k - i * 64) = k by omega] at this
      simpa using this
theorem no_timers {T : Nat} {q : Nat → List Tm} {us : Nat → Nat} {LL : List Tm} (g : Gd T q us LL) (hf : ∀ k, k < 7 * 64 → q k = []) : LL = [] := by
  cases LL with
  | nil => rfl
  | cons t l =>
    have h1 := g.inn (t := t) (by simp)
    rw [hf _ (plc_lt g.t (g.lo t (by simp)).2)] at h1
    simp at h1

/-- What holds from slot to slot. -/
structure Tn (zf : Bool) (w0 : World) (b m T U : Nat) (LL F : List Tm) (sl : Value) (Tc : Nat) (wr : World) : Prop where
  wh : Wh zf wr b m Tc (lat Tc LL)
  fr : FR wr w0.heap.size F sl
  fd : Fd LL Tc F
  t1 : T ≤ Tc
  t2 : Tc ≤ U
  bt : But (OwL b m LL) w0 wr
theorem lat_own {b m U : Nat} {LL : List Tm} {B : Nat} (h : OwL b m (lat U LL) B) : OwL b m LL B := by
  rcases h with h | h | ⟨t, ht, h⟩
  · exact .inl h
  · exact .inr (.inl h)
  · exact .inr (.inr ⟨t, (mem_lat.1 ht).1, h⟩)

theorem perm_fl {F G : List Tm} (h : ∀ a, fl a F = fl a G) : F.Perm G := by
  letI : DecidableEq Tm := fun a b => Classical.propDecidable (a = b)
  rw [List.perm_iff_count]
  intro t
  have e : ∀ l : List Tm, List.count t l = List.count t (fl t.a l) := fun l => by
    unfold fl
    rw [List.count_filter (by simp)]
  rw [e F, e G, h]
theorem len_split (p : Tm → Bool) : ∀ l : List Tm, (l.filter p).length + (l.filter fun t => !p t).length = l.length
  | [] => rfl
  | t :: l => by
    have := len_split p l
    cases h : p t <;> simp [h] <;> omega
theorem fl_upto (a T : Nat) (LL : List Tm) : fl a (LL.filter fun t => decide (t.a ≤ T)) = if a ≤ T then fl a LL else [] := by
  unfold fl
  rw [List.filter_filter]
  by_cases c : a ≤ T
  · rw [if_pos c]
    apply List.filter_congr
    intro t _
    by_cases e : t.a = a
    · simp [e, c]
    · simp [e]
  · rw [if_neg c, List.filter_eq_nil_iff]
    intro t _
    simp
    omega
theorem Fd.perm {LL F : List Tm} {T : Nat} (h : Fd LL T F) : F.Perm (LL.filter fun t => decide (t.a ≤ T)) := perm_fl fun a => by rw [h.2, fl_upto]
theorem Fd.count' {LL F : List Tm} {T : Nat} (h : Fd LL T F) : F.length + (lat T LL).length = LL.length := by
  rw [h.perm.length_eq, ← len_split (fun t => decide (t.a ≤ T)) LL]
  congr 2
  unfold lat
  apply List.filter_congr
  intro t _
  by_cases c : t.a ≤ T
  · have : ¬ T < t.a := by omega
    simp [c, this]
  · have : T < t.a := by omega
    simp [c, this]
theorem Fd.count {LL F : List Tm} {T : Nat} (h : Fd LL T F) : F.length + (lat T LL).length ≤ LL.length := Nat.le_of_eq h.count'
theorem Tn.come {w0 : World} {b m T U : Nat} {LL F : List Tm} {sl : Value} {Tc : Nat} {wr : World} (tn : Tn zf w0 b m T U LL F sl Tc wr) {q : Nat → List Tm} {us : Nat → Nat} (g : Gd Tc q us (lat Tc LL)) {k0 : Nat} (hk : k0 < 448) (hne : q k0 ≠ []) (hf : ∀ k, k < k0 → q k = []) (hU : beg Tc (k0 / 64) (k0 % 64) ≤ U) {w3 w4 : World} (b3 : Below wr.heap.size wr w3) {sl' : Value}
    (f4 : FR w4 w0.heap.size (F ++ fl (beg Tc (k0 / 64) (k0 % 64)) (lat Tc LL)) sl') (h4 : Wh zf w4 b m (beg Tc (k0 / 64) (k0 % 64)) ((lat Tc LL).filter fun t => t.a != beg Tc (k0 / 64) (k0 % 64))) (b4 : But (fun B => OwL b m (lat Tc LL) B ∨ w0.heap.size ≤ B) w3 w4) :
    Tn zf w0 b m T U LL (F ++ fl (beg Tc (k0 / 64) (k0 % 64)) (lat Tc LL)) sl' (beg Tc (k0 / 64) (k0 % 64)) w4 ∧ Tc < beg Tc (k0 / 64) (k0 % 64) := by
  obtain ⟨f1, _, f3, f5, _⟩ := first_ticks g hk hne hf
  have all : ∀ t ∈ lat Tc LL, beg Tc (k0 / 64) (k0 % 64) ≤ t.a := fun t ht => by
    by_cases c : plc Tc t.a = k0
    · exact (f3 t ht c).1
    · exact Nat.le_of_lt (f5 t ht c).1
  obtain ⟨s1, s2⟩ := tn.fd.step f1 all
  rw [s2] at h4
  refine ⟨⟨h4, f4, s1, by have := tn.t1; omega, hU, ?_⟩, f1⟩
  refine tn.bt.trans ((But.of_below (C := fun B => OwL b m (lat Tc LL) B ∨ w0.heap.size ≤ B) b3).trans b4 (fun _ _ c => c)) (fun k hk c => ?_)
  rcases c with c | c
  · exact lat_own c
  · omega
theorem Tn.stop {w0 : World} {b m T U : Nat} {LL F : List Tm} {sl : Value} {Tc : Nat} {wr : World} (tn : Tn zf w0 b m T U LL F sl Tc wr) (hU2 : U ≤ 1099511627776) (hLb : ∀ B, OwL b m LL B → B < w0.heap.size) {q : Nat → List Tm} {mx : Nat → Bool} {ls : Nat → Int} {us : Nat → Nat} (ws : Ws zf wr b m Tc (lat Tc LL) q mx ls us) (hall : ∀ t ∈ lat Tc LL, U < t.a ∧ plc U t.a = plc Tc t.a) {w3 : World} (b3 : Below wr.heap.size wr w3) :
    FR (w3.setCell ⟨b, 0, none⟩ (.int .i64 U)) w0.heap.size F sl ∧ Fd LL U F ∧ Wh zf (w3.setCell ⟨b, 0, none⟩ (.int .i64 U)) b m U (lat U LL) ∧ But (OwL b m LL) w0 (w3.setCell ⟨b, 0, none⟩ (.int .i64 U)) := by
  obtain ⟨s1, s2⟩ := tn.fd.stop tn.t2 (fun t ht => (hall t ht).1)
  have bs : But (fun B => B = b) w3 (w3.setCell ⟨b, 0, none⟩ (.int .i64 U)) := But.set w3 ⟨b, 0, none⟩ _ rfl
  have b4 : But (fun B => B = b) wr (w3.setCell ⟨b, 0, none⟩ (.int .i64 U)) := (But.of_below b3).trans bs (fun _ _ c => c)
  have hb := hLb b (.inl rfl)
  refine ⟨tn.fr.blk (fun g hg => b4.block g (tn.fr.own hg).2.1 (fun c => by have := (tn.fr.own hg).1; omega)), s1, ?_, tn.bt.trans b4 (fun k _ c => .inl c)⟩
  rw [← s2]
  refine ⟨q, mx, ls, us, (ws.wl.below b3).time U, ws.gd.go hU2 hall, ws.ma, ws.st, ws.mp.blk (b4.block m ws.mp.lt (fun c => ?_))⟩
  exact ws.mp.ne ws.wl.wm.bb c.symm

set_option maxRecDepth 100000 in
set_option maxHeartbeats 2000000 in
theorem turn_any {w : World} {b m T : Nat} {LL : List Tm} (h : Wh zf w b m T LL) {U : Nat} (hU : T < U) (hU2 : U ≤ 1099511627776) (hlen : LL.length ≤ 8796093022208) (hT : Tb w) (h0 : ¬ OwL b m LL 0) :
    Calls Tryd.prog 26 #[.pointer (some ⟨b, 0, none⟩), .int .i64 U] w fun e w' => ∃ sl F, e = .returned sl ∧ FR w' w.heap.size F sl ∧ Fd LL U F ∧ Wh zf w' b m U (lat U LL) ∧ But (OwL b m LL) w w' := by
  have hlo : ∀ t ∈ LL, T < t.a := by
    obtain ⟨q, mx, ls, us, h⟩ := h
    exact fun t ht => (h.gd.lo t ht).1
  have hLb : ∀ B, OwL b m LL B → B < w.heap.size := fun B hB => h.lt hB
  have START := Lib.hid (Tn.mk (w0 := w) (U := U) (LL := LL) (by rw [lat_all hlo]; exact h) (FR.nil w _) (Fd.zero hlo) (Nat.le_refl T) (Nat.le_of_lt hU) (But.refl _ w))
  have HT := Lib.hid hT
  clear h hlo hT
  go_enter Tryd.func26, Tryd.ntmps26
  go_wp2_with fail
  refine wp_scope_straight ?_
  go_wp2_with fail
  refine wp_label ?_
  go_wp2_with fail
  go_loopw [5] (fun s5 wr => ∃ F Tc, Tn zf w b m T U LL F s5 Tc wr) (fun s5 wr => U - nowOf b wr)
  case atStart => exact ⟨_, _, START.out⟩
  case round =>
    obtain ⟨F, Tc, tn⟩ := hrel
    obtain ⟨q, mx, ls, us, ws⟩ := tn.wh
    have TN := Lib.hid tn
    have WS := Lib.hid ws
    have hnow := Lib.hid (nowOf_is ws.wl.now)
    have hbr := ws.wl.lt (.inl rfl)
    have hTr := Lib.hid (HT.out.but tn.bt h0)
    clear tn ws START
    go_wp2_with fail
    go_loopw [5, 9] (fun s5 s9 wi => ∃ i : Nat, i ≤ 7 ∧ s5 = u5 ∧ s9 = .int .i64 i ∧ (∀ k, k < i * 64 → q k = []) ∧ Below wr.heap.size wr wi) (fun _ s9 _ => 7 - (intOf s9).toNat)
    case atStart => exact ⟨0, by omega, rfl, rfl, fun k hk => by omega, Below.refl _ _⟩
    case round =>
      obtain ⟨i, hi, rfl, rfl, hf, bi⟩ := hrel
      have WI := Lib.hid (WS.out.wl.below bi)
      have hbi := WI.out.lt (.inl rfl)
      have szi := bi.size
      by_cases h7 : i < 7
      · have h7' : ((i : Nat) : Int) < 7 := by omega
        by_cases hu : us i = 0
        · have c : wr.cell? ⟨b, 1794 + i, none⟩ = some (.int .u64 0) := by have := WI.out.us i h7; rw [hu] at this; exact this
          have HN := Lib.hid (first_no b i wr h7 hbi c)
          clear c
          go_wp2_with (go_at_call 27; refine HN.out.mono ?_; rintro e w1 ⟨rfl, B1⟩)
          go_roundw
          case rel => exact ⟨i + 1, by omega, rfl, by go_num, level_none WS.out.gd h7 hu hf, bi.trans (((B1.mono (Nat.le_refl _)).alloc (B1.size) _).mono szi)⟩
          case measure => simp [intOf]; omega
        · obtain ⟨k1, k2, k3, k4⟩ := level_some WS.out.gd h7 hu hf
          have HY := Lib.hid (first_yes b i (us i) wr h7 hbi (WS.out.gd.ul i h7) hu (hTr.out.below bi) (WI.out.us i h7))
          generalize tz 64 (us i) = s at *
          clear hu hf
          have e1 : Hid ((i * 64 + s) / 64 = i) := Lib.hid (by omega)
          have e2 : Hid ((i * 64 + s) % 64 = s) := Lib.hid (by omega)
          go_wp2_with fail
          refine HY.out.mono ?_
          rintro e w1 ⟨rfl, B1⟩
          have P2 := Bk.new w1 #[.int .i64 (i : Nat), .int .i64 (s : Nat)] 64
          have B2 : Below wr.heap.size wr (w1.alloc (.cells #[.int .i64 (i : Nat), .int .i64 (s : Nat)] 64)) := B1.alloc B1.size _
          have HB := Lib.hid (begin_any b Tc i s _ h7 k2 WS.out.gd.t (WI.out.below B2).now (by have := B2.size; omega))
          clear HY
          go_wp2_with fail
          refine HB.out.mono ?_
          rintro e w3 ⟨rfl, B3⟩
          have P3 := (B3.block w1.heap.size P2.lt).trans P2
          have b3 := bi.trans ((B2.trans (B3.mono B2.size)).mono szi)
          have s3 := B3.size
          simp only [World.size_alloc] at s3
          clear P2 B1 B2 B3 HB
          have p0 : w3.cell? ⟨w1.heap.size, 0, none⟩ = some (.int .i64 (i : Nat)) := Bk.c P3 0
          have p1 : w3.cell? ⟨w1.heap.size, 1, none⟩ = some (.int .i64 (s : Nat)) := Bk.c P3 1
          clear P3
          generalize w1.heap.size = P at *
          by_cases hgt : U < beg Tc i s
          · have hgt' : ((U : Nat) : Int) < ((beg Tc i s : Nat) : Int) := by omega
            have n3 : w3.cell? ⟨b, 0, none⟩ = some (.int .i64 Tc) := (WS.out.wl.below b3).now
            have f3 := bk_f (WS.out.wl.below b3).wm.bb
            go_wp2_with fail
            rw [Exit.noGoto_ret]
            go_ret
            obtain ⟨_, _, _, _, f5⟩ := first_ticks WS.out.gd k1 k3 k4
            rw [e1.out, e2.out] at f5
            obtain ⟨r1, r2, r3, r4⟩ := TN.out.stop hU2 hLb WS.out (f5 U TN.out.t2 hgt) b3
            exact ⟨_, F, rfl, r1, r2, r3, r4⟩
          · have hgt' : ¬ ((U : Nat) : Int) < ((beg Tc i s : Nat) : Int) := by omega
            have hlen2 : F.length + (lat Tc LL).length ≤ 8796093022208 := by
              have h1 : F.length + (lat Tc LL).length ≤ LL.length := Fd.count TN.out.fd
              omega
            have HC := come_any (WS.out.but (But.of_below (C := fun _ => False) b3) (fun _ c => c.elim)) k1 k3 k4 (L := w.heap.size) (TN.out.fr.blk (fun g hg => b3.block g (TN.out.fr.own hg).2.1)) (by have := TN.out.bt.size; have := b3.size; omega) hlen2 (fun B hB => hLb B (lat_own hB))
            have CM := Lib.hid (fun w4 sl' => @Tn.come zf w b m T U LL F _ Tc _ TN.out q us WS.out.gd _ k1 k3 k4 (by rw [e1.out, e2.out]; omega) w3 w4 b3 sl')
            rw [e1.out, e2.out] at HC
            rw [e1.out, e2.out] at CM
            have HCh := Lib.hid HC
            clear HC
            go_wp2_with (go_at_call 37; refine HCh.out.mono ?_; rintro e w4 ⟨sl', rfl, f4, h4, b4⟩)
            obtain ⟨t4, t5⟩ := CM.out w4 sl' f4 h4 b4
            refine ⟨⟨_, _, t4⟩, ?_⟩
            obtain ⟨q9, mx9, ls9, us9, w9⟩ := t4.wh
            rw [nowOf_is w9.wl.now, hnow.out]
            have := t4.t2
            omega
      · have h7' : ¬ ((i : Nat) : Int) < 7 := by omega
        obtain rfl : i = 7 := by omega
        have n3 : wr.cell? ⟨b, 0, none⟩ = some (.int .i64 Tc) := WI.out.now
        have f3 := bk_f WI.out.wm.bb
        have hnil := no_timers WS.out.gd hf
        have HNI := Lib.hid hnil
        clear hnil hf
        go_wp2_with fail
        go_ret
        obtain ⟨r1, r2, r3, r4⟩ := TN.out.stop hU2 hLb WS.out (fun t ht => by rw [HNI.out] at ht; simp at ht) bi
        exact ⟨_, F, rfl, r1, r2, r3, r4⟩
end Go.Proofs.YtignphkfknjllaaDoor
