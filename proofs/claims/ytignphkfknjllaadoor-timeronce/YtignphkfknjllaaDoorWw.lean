/- What has fired, compared; plain rows of ticks and numbers; the conditions: the rows in memory. -/
import Derived.Test.YtignphkfknjllaaDoorWv
import Derived.Laws.StructEq
namespace Go.Proofs.YtignphkfknjllaaDoor
open Go.RowKit

/-- A timer's tick and number. -/
def kv (t : Tm) : Nat × Int := (t.a, t.i)
def flp (a : Nat) (P : List (Nat × Int)) : List (Nat × Int) := P.filter fun p => p.1 == a
theorem fl_kv (a : Nat) (l : List Tm) : (fl a l).map kv = flp a (l.map kv) := by
  unfold fl flp; rw [List.filter_map]; rfl
theorem flp_cons_same {a : Nat} {p : Nat × Int} (l : List (Nat × Int)) (h : p.1 = a) : flp a (p :: l) = p :: flp a l := by simp [flp, h]
theorem flp_cons_other {a : Nat} {p : Nat × Int} (l : List (Nat × Int)) (h : p.1 ≠ a) : flp a (p :: l) = flp a l := by simp [flp, h]
theorem mem_flp {a : Nat} {l : List (Nat × Int)} {p : Nat × Int} : p ∈ flp a l ↔ p ∈ l ∧ p.1 = a := by simp [flp]
/-- Rows in order that have the same of each tick are the same. -/
theorem sorted_eq : ∀ (X Y : List (Nat × Int)), (X.Pairwise fun x y => x.1 ≤ y.1) → (Y.Pairwise fun x y => x.1 ≤ y.1) → (∀ a, flp a X = flp a Y) → X = Y
  | [], [], _, _, _ => rfl
  | [], y :: Y, _, _, h => by have := h y.1; rw [flp_cons_same Y rfl] at this; simp [flp] at this
  | x :: X, [], _, _, h => by have := h x.1; rw [flp_cons_same X rfl] at this; simp [flp] at this
  | x :: X, y :: Y, hX, hY, h => by
    have hX' := List.pairwise_cons.1 hX
    have hY' := List.pairwise_cons.1 hY
    have e : x.1 = y.1 := by
      have h1 : y ∈ flp y.1 (x :: X) := by rw [h, flp_cons_same Y rfl]; simp
      have h2 : x ∈ flp x.1 (y :: Y) := by rw [← h, flp_cons_same X rfl]; simp
      have a1 : x.1 ≤ y.1 := by
        rcases List.mem_cons.1 (mem_flp.1 h1).1 with c | c
        · rw [c]; exact Nat.le_refl _
        · exact hX'.1 y c
      have a2 : y.1 ≤ x.1 := by
        rcases List.mem_cons.1 (mem_flp.1 h2).1 with c | c
        · rw [c]; exact Nat.le_refl _
        · exact hY'.1 x c
      omega
    have hx := h x.1
    rw [flp_cons_same X rfl, flp_cons_same Y e.symm] at hx
    simp at hx
    obtain ⟨rfl, _⟩ := hx
    congr 1
    refine sorted_eq X Y hX'.2 hY'.2 (fun a => ?_)
    have := h a
    by_cases c : x.1 = a
    · rw [flp_cons_same X c, flp_cons_same Y c] at this; simpa using this
    · rw [flp_cons_other X c, flp_cons_other Y c] at this; exact this
theorem pw_kv {F : List Tm} (h : F.Pairwise fun x y => x.a ≤ y.a) : (F.map kv).Pairwise fun x y => x.1 ≤ y.1 := List.pairwise_map.2 h
theorem Fd.unique {LL LL' F F' : List Tm} {U : Nat} (h : Fd LL U F) (h' : Fd LL' U F') (e : LL.map kv = LL'.map kv) : F.map kv = F'.map kv := by
  refine sorted_eq _ _ (pw_kv h.1) (pw_kv h'.1) (fun a => ?_)
  rw [← fl_kv, ← fl_kv, h.2, h'.2]
  by_cases c : a ≤ U
  · rw [if_pos c, if_pos c, fl_kv, fl_kv, e]
  · rw [if_neg c, if_neg c]
theorem Fd.app {LL F G : List Tm} {T U : Nat} (h : Fd LL T F) (h' : Fd (lat T LL) U G) (hTU : T ≤ U) : Fd LL U (F ++ G) := by
  refine ⟨?_, fun a => ?_⟩
  · rw [List.pairwise_append]
    refine ⟨h.1, h'.1, fun x hx y hy => ?_⟩
    have h1 := (h.mem hx).1
    have h2 := mem_lat.1 (h'.mem hy).2
    omega
  · rw [fl_app, h.2, h'.2]
    by_cases c : a ≤ T
    · rw [if_pos c, if_pos (by omega), if_pos (by omega)]
      have : fl a (lat T LL) = [] := fl_nil_of fun t ht e => by have := (mem_lat.1 ht).2; omega
      rw [this, List.append_nil]
    · rw [if_neg c, List.nil_append]
      by_cases c2 : a ≤ U
      · rw [if_pos c2, if_pos c2]
        unfold fl lat
        rw [List.filter_filter]
        apply List.filter_congr
        intro t _
        by_cases e : t.a = a
        · have : T < a := by omega
          simp [e, this]
        · simp [e]
      · rw [if_neg c2, if_neg c2]
theorem lat_lat {T U : Nat} {LL : List Tm} (h : T ≤ U) : lat U (lat T LL) = lat U LL := by
  unfold lat
  rw [List.filter_filter]
  apply List.filter_congr
  intro t _
  by_cases c : U < t.a
  · have : T < t.a := by omega
    simp [c, this]
  · simp [c]
theorem lat_kv {U : Nat} {LL LL' : List Tm} (e : LL.map kv = LL'.map kv) : (lat U LL).map kv = (lat U LL').map kv := by
  have : ∀ l : List Tm, (lat U l).map kv = (l.map kv).filter fun p => decide (U < p.1) := fun l => by unfold lat; rw [List.filter_map]; rfl
  rw [this, this, e]

/-- A row of ticks and numbers in memory. -/
def Sp (w : World) (ad : Option Addr) (P : List (Nat × Int)) : Prop := P = [] ∨ ∃ g, ad = some ⟨g, 0, none⟩ ∧ ∀ j p, P[j]? = some p → w.cell? ⟨g, j * 2, none⟩ = some (.int .i64 p.1) ∧ w.cell? ⟨g, j * 2 + 1, none⟩ = some (.int .i64 p.2)
theorem fc_at (F : List Tm) (j : Nat) (t : Tm) (h : F[j]? = some t) : (fc F)[j * 2]? = some (.int .i64 t.a) ∧ (fc F)[j * 2 + 1]? = some (.int .i64 t.i) := by
  induction F generalizing j with
  | nil => simp at h
  | cons x F ih =>
    have e : fc (x :: F) = .int .i64 x.a :: .int .i64 x.i :: fc F := by simp [fc]
    rw [e]
    cases j with
    | zero => simp at h; subst h; exact ⟨rfl, rfl⟩
    | succ j =>
      have := ih j (by simpa using h)
      rw [show (j + 1) * 2 = j * 2 + 2 by omega]
      exact this
theorem FR.sp {w : World} {L : Nat} {F : List Tm} {sl : Value} (h : FR w L F sl) : ∃ ad c, sl = .slice ad (F.map kv).length c ∧ Sp w ad (F.map kv) := by
  rcases h.1.2 with ⟨hv, h0⟩ | ⟨g, cap, cur, hv, hb, hg, hnc, hm, hcs, htk⟩
  · obtain rfl : F = [] := List.eq_nil_of_length_eq_zero h0
    exact ⟨none, 0, hv, .inl rfl⟩
  · refine ⟨_, cap, by rw [List.length_map]; exact hv, .inr ⟨g, rfl, fun j p hp => ?_⟩⟩
    rw [List.getElem?_map] at hp
    cases ht : F[j]? with
    | none => rw [ht] at hp; simp at hp
    | some t =>
      rw [ht] at hp
      simp at hp
      subst hp
      have hj := (List.getElem?_eq_some_iff.1 ht).1
      obtain ⟨k1, k2⟩ := fc_at F j t ht
      rw [← htk] at k1 k2
      rw [List.getElem?_take, if_pos (by omega)] at k1 k2
      simp only [Array.getElem?_toList] at k1 k2
      exact ⟨by simp [World.cell?, hg, k1, kv], by simp [World.cell?, hg, k2, kv]⟩

set_option maxRecDepth 100000 in
set_option maxHeartbeats 1000000 in
theorem same_any (P : List (Nat × Int)) (a1 a2 : Option Addr) (c1 c2 : Nat) (w : World) (h1 : Sp w a1 P) (h2 : Sp w a2 P) (hl : P.length ≤ 9223372036854775807) : Calls Tryd.prog 16 #[.slice a1 P.length c1, .slice a2 P.length c2] w fun e w' => e = .returned (.bool true) ∧ ∃ n, w' = w.drewN n := by
  have H1 := Lib.hid h1
  have H2 := Lib.hid h2
  clear h1 h2
  go_enter Tryd.func16, Tryd.ntmps16
  go_wp2
  go_loopw [5] (fun s5 wr => ∃ j n : Nat, j ≤ P.length ∧ s5 = .int .i64 j ∧ wr = w.drewN n) (fun s5 _ => P.length - (intOf s5).toNat)
  case atStart => exact ⟨0, 0, Nat.zero_le _, rfl, rfl⟩
  case round =>
    obtain ⟨j, n, hj, rfl, rfl⟩ := hrel
    by_cases hlt : j < P.length
    · obtain ⟨p, hp⟩ : ∃ p, P[j]? = some p := ⟨_, List.getElem?_eq_getElem hlt⟩
      rcases H1.out with h | ⟨g1, rfl, h1⟩
      · rw [h] at hlt; simp at hlt
      rcases H2.out with h | ⟨g2, rfl, h2⟩
      · rw [h] at hlt; simp at hlt
      obtain ⟨x0, x1⟩ := h1 j p hp
      obtain ⟨y0, y1⟩ := h2 j p hp
      have j1 : ((j : Nat) : Int) < (P.length : Int) := by omega
      clear H1 H2 h1 h2 hp
      go_wp2
      go_quiet (fail)
      go_wp2
      exact ⟨⟨j + 1, n + nq, by omega, by go_num, rfl⟩, by simp [intOf]; omega⟩
    · go_wp2
      go_ret
      exact ⟨rfl, n, rfl⟩
/-- So many ticks on. -/
def fa (T : Nat) (n : Int) : Int := (T : Int) + n % 4398046511104
theorem fa_ge (T : Nat) (n : Int) : (T : Int) ≤ fa T n ∧ fa T n < (T : Int) + 4398046511104 := by unfold fa; omega
set_option maxRecDepth 100000 in
theorem far_any (T : Nat) (n : Int) (w : World) (hT : T ≤ 1099511627776) : Calls Tryd.prog 14 #[.int .i64 T, .int .i64 n] w fun e w' => e = .returned (.int .i64 (fa T n)) ∧ w' = w := by
  have e1 : IntKind.u64.wrap n % 4398046511104 = n % 4398046511104 := by rw [IntKind.wrap_u64]; omega
  have b1 := fa_ge T n
  unfold fa at *
  go_enter Tryd.func14, Tryd.ntmps14
  go_wp2
  go_ret
  refine ⟨?_, rfl⟩
  show Ending.returned (Value.int .i64 (wrap64 ((T : Int) + wrap64 ((IntKind.u64.wrap n).tmod 4398046511104)))) = _
  have e2 : (IntKind.u64.wrap n).tmod 4398046511104 = n % 4398046511104 := by
    rw [Int.tmod_eq_emod_of_nonneg (by rw [IntKind.wrap_u64]; omega), e1]
  rw [e2, IntWalk.wrap64_in (n % 4398046511104) (by omega), IntWalk.wrap64_in _ (by omega)]
end Go.Proofs.YtignphkfknjllaaDoor
