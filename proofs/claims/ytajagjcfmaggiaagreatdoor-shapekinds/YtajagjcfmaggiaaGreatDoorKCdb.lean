/- Each act over values' trees, tried: what the document's table has, told as one form: the numbers of a result, and the tree of its body; the conditions: the trees in memory, valid, their bits within 64. -/
import Derived.Deep.Cut
import Derived.Deep.CutRange
import Derived.Laws.IdiomStrings
import Derived.Laws.MakeOwn
import Derived.Test.YtajagjcfmaggiaaGreatDoorKCcj
import Derived.Test.YtajagjcfmaggiaaGreatDoorKCad
import Derived.Test.YtajagjcfmaggiaaGreatDoorKCbb
import Derived.Test.YtajagjcfmaggiaaGreatDoorKCah
import Derived.Test.YtajagjcfmaggiaaGreatDoorKCae
import Derived.Test.YtajagjcfmaggiaaGreatDoorKCda
import Derived.Test.YtajagjcfmaggiaaGreatDoorKCac
import Derived.Laws.Bits64b
import Derived.Laws.Cover2
import Derived.Laws.Strings
import Derived.Deep.RegionHeld3
import Derived.Test.YtajagjcfmaggiaaGreatDoorKCag
import Derived.Deep.AppendLies
import Derived.Deep.RegionLaw
import Derived.Test.YtajagjcfmaggiaaGreatDoorKCbg
import Derived.Test.YtajagjcfmaggiaaGreatDoorKCba
namespace Go.Proofs.YtajagjcfmaggiaaGreatDoor
open Go.RowKit

/-- A result: its numbers, and its body's tree in memory. -/
def GP (er pk pn : Int) (has : Bool) (m : Nat) (tr : Dt.Tr m) (w : World) (e : Ending) (w' : World) : Prop :=
  ∃ k i u s a n c, e = .returned (.agg (rcs er 0 pk pn has k i u s a n c)) ∧ Dt.Rf (fun g => w.heap.size ≤ g ∧ g < w'.heap.size) w' m [.int .i64 k, .int .i64 i, .int .u64 u, .string s, .slice a n c] tr ∧ Below w.heap.size w w'

/-- A value without parts. -/
def lfT (k i : Int) : Dt.Tr 1 := ((k, i, 0, ⟨#[]⟩, []) : Int × Int × Int × ByteArray × List (Dt.Tr 0))
theorem lf_rf (F : Nat → Prop) (w : World) (k i : Int) : Dt.Rf F w 1 [.int .i64 k, .int .i64 i, .int .u64 0, .string ⟨#[]⟩, .slice none 0 0] (lfT k i) := ⟨none, 0, rfl, Nat.zero_le _, Nat.zero_le _, Nat.zero_le _, .inl rfl⟩
theorem gp_err {er pk pn : Int} {w : World} {e : Ending} {w' : World} (h : e = .returned (.agg (rErr er 0 pk pn)) ∧ Below w.heap.size w w') : GP er pk pn false 1 (lfT 0 0) w e w' := ⟨0, 0, 0, ⟨#[]⟩, none, 0, 0, h.1, lf_rf _ w' 0 0, h.2⟩
theorem gp_rf {H : Nat} {m : Nat} {tr : Dt.Tr m} {w : World} {e : Ending} {w' : World} (hH : w.heap.size ≤ H) (h : ∃ k i u s a n c, e = .returned (.agg (rcs 0 0 0 0 true k i u s a n c)) ∧ Dt.Rf (fun g => H ≤ g ∧ g < w'.heap.size) w' m [.int .i64 k, .int .i64 i, .int .u64 u, .string s, .slice a n c] tr ∧ Below w.heap.size w w') : GP 0 0 0 true m tr w e w' := by
  obtain ⟨k, i, u, s, a, n, c, he, rf, hb⟩ := h
  exact ⟨k, i, u, s, a, n, c, he, Dt.Rf.to (fun g hg => ⟨⟨by omega, hg.2⟩, rfl⟩) _ _ _ rf, hb⟩

/-- A value in memory, valid. -/
structure Vl (W0 : World) (m : Nat) (t : Dt.Tr (m + 1)) (k i u : Int) (s : ByteArray) (a : Option Addr) (n c : Nat) : Prop where
  rg : Dt.rgt (m + 1) t = true
  ps : (Dt.pts (m + 1) t).1 ≤ 4096
  r6 : Dt.r64 (m + 1) t
  rep : Dt.Rep W0 (m + 1) [.int .i64 k, .int .i64 i, .int .u64 u, .string s, .slice a n c] t
theorem Vl.eq {W0 : World} {m : Nat} {t : Dt.Tr (m + 1)} {k i u : Int} {s : ByteArray} {a : Option Addr} {n c : Nat} (h : Vl W0 m t k i u s a n c) : t.kd = k ∧ t.it = i ∧ t.tx = s ∧ t.ks.length = n := by
  obtain ⟨a', c', e, -⟩ := h.rep
  simp only [List.cons.injEq, Value.int.injEq, Value.string.injEq, Value.slice.injEq, true_and, and_true] at e
  exact ⟨e.1.symm, e.2.1.symm, e.2.2.2.1.symm, e.2.2.2.2.2.1.symm⟩
theorem Vl.below {W0 w : World} {m : Nat} {t : Dt.Tr (m + 1)} {k i u : Int} {s : ByteArray} {a : Option Addr} {n c : Nat} (h : Vl W0 m t k i u s a n c) (hb : Below W0.heap.size W0 w) : Vl w m t k i u s a n c := ⟨h.rg, h.ps, h.r6, Dt.Rep.below hb _ _ _ h.rep⟩
theorem Vl.kid {W0 : World} {m : Nat} {t : Dt.Tr (m + 1)} {k i u : Int} {s : ByteArray} {a : Option Addr} {n c : Nat} (h : Vl W0 m t k i u s a n c) {t' : Dt.Tr m} (ht : t' ∈ t.ks) : Dt.rgt m t' = true ∧ (Dt.pts m t').1 ≤ 4096 ∧ Dt.r64 m t' := by
  have h1 := h.rg
  simp only [Dt.rgt, Bool.and_eq_true, List.all_eq_true] at h1
  exact ⟨h1.2 t' ht, (Dt.pts_kids h.ps).2 t' ht, h.r6.2 t' ht⟩

theorem gpAssert (W0 : World) (m : Nat) (t : Dt.Tr (m + 1)) (ak ai au : Int) (az : ByteArray) (aa : Option Addr) (an ac : Nat) (bk bi bu : Int) (bs : ByteArray) (ba : Option Addr) (bn bc : Nat) (num : Int) (h : Vl W0 m t ak ai au az aa an ac) (hq : tkd num ak = true) (w : World) (hb : Below W0.heap.size W0 w) :
    Calls Tryz.prog 77 #[.agg (acs 2 ak ai au az aa an ac bk bi bu bs ba bn bc num)] w (GP 0 0 0 true (m + 1) t w) := (tryAssert W0 m t h.rg h.ps h.r6 ak ai au az aa an ac bk bi bu bs ba bn bc num h.rep w hb hq).mono fun _ _ q => gp_rf (by omega) q
theorem gpAssert_no (W0 : World) (m : Nat) (t : Dt.Tr (m + 1)) (ak ai au : Int) (az : ByteArray) (aa : Option Addr) (an ac : Nat) (bk bi bu : Int) (bs : ByteArray) (ba : Option Addr) (bn bc : Nat) (num : Int) (h : Vl W0 m t ak ai au az aa an ac) (hq : tkd num ak = false) (w : World) (hb : Below W0.heap.size W0 w) :
    Calls Tryz.prog 77 #[.agg (acs 2 ak ai au az aa an ac bk bi bu bs ba bn bc num)] w (GP 110 2 ak false 1 (lfT 0 0) w) := (tryAssert_no W0 m t h.rg h.ps ak ai au az aa an ac bk bi bu bs ba bn bc num h.rep w hb hq).mono fun _ _ q => gp_err q
theorem gpFace (W0 : World) (m : Nat) (t : Dt.Tr (m + 1)) (ak ai au : Int) (az : ByteArray) (aa : Option Addr) (an ac : Nat) (bk bi bu : Int) (bs : ByteArray) (ba : Option Addr) (bn bc : Nat) (num : Int) (h : Vl W0 m t ak ai au az aa an ac) (hq : impl ak num = true) (w : World) (hb : Below W0.heap.size W0 w) :
    Calls Tryz.prog 77 #[.agg (acs 3 ak ai au az aa an ac bk bi bu bs ba bn bc num)] w (GP 0 0 0 true (m + 1) t w) := (tryFace W0 m t h.ps ak ai au az aa an ac bk bi bu bs ba bn bc num h.rep w hb hq).mono fun _ _ q => gp_rf (by omega) q
theorem gpFace_no (ak ai au : Int) (az : ByteArray) (aa : Option Addr) (an ac : Nat) (bk bi bu : Int) (bs : ByteArray) (ba : Option Addr) (bn bc : Nat) (num : Int) (hq : impl ak num = false) (w : World) :
    Calls Tryz.prog 77 #[.agg (acs 3 ak ai au az aa an ac bk bi bu bs ba bn bc num)] w (GP 110 2 (lackM ak num) false 1 (lfT 0 0) w) := (tryFace_no ak ai au az aa an ac bk bi bu bs ba bn bc num w hq).mono fun _ _ q => gp_err q
theorem gpSize (W0 : World) (m : Nat) (t : Dt.Tr (m + 1)) (ak ai au : Int) (az : ByteArray) (aa : Option Addr) (an ac : Nat) (bk bi bu : Int) (bs : ByteArray) (ba : Option Addr) (bn bc : Nat) (num : Int) (h : Vl W0 m t ak ai au az aa an ac) (h0 : (Dt.lenP t.kd t.tx.size t.ks.length).2 = 0) (w : World) (hb : Below W0.heap.size W0 w) :
    Calls Tryz.prog 77 #[.agg (acs 10 ak ai au az aa an ac bk bi bu bs ba bn bc num)] w (GP 0 0 0 true 1 (lfT 1 (Dt.lenP t.kd t.tx.size t.ks.length).1) w) := (trySize W0 m t h.rg h.ps ak ai au az aa an ac bk bi bu bs ba bn bc num h.rep w hb).mono fun e w' ⟨he, hb'⟩ => by
  rw [if_pos h0] at he
  exact ⟨1, _, 0, ⟨#[]⟩, none, 0, 0, he, lf_rf _ w' 1 _, hb'⟩
theorem gpSize_no (W0 : World) (m : Nat) (t : Dt.Tr (m + 1)) (ak ai au : Int) (az : ByteArray) (aa : Option Addr) (an ac : Nat) (bk bi bu : Int) (bs : ByteArray) (ba : Option Addr) (bn bc : Nat) (num : Int) (h : Vl W0 m t ak ai au az aa an ac) (h0 : (Dt.lenP t.kd t.tx.size t.ks.length).2 ≠ 0) (w : World) (hb : Below W0.heap.size W0 w) :
    Calls Tryz.prog 77 #[.agg (acs 10 ak ai au az aa an ac bk bi bu bs ba bn bc num)] w (GP 12 0 0 false 1 (lfT 0 0) w) := (trySize W0 m t h.rg h.ps ak ai au az aa an ac bk bi bu bs ba bn bc num h.rep w hb).mono fun e w' ⟨he, hb'⟩ => by
  rw [if_neg h0] at he
  exact gp_err ⟨he, hb'⟩
theorem vr_11 {F : Nat → Prop} {w : World} {m : Nat} {v : Value} {t : Dt.Tr (m + 1)} (h : Dt.VR F w (m + 1) v t) (hk : t.kd = 11) : ∃ b u t0, v = .iface 155 (.pointer (some ⟨b, 0, none⟩)) ∧ w.heap[b]? = some (.cells #[.int .i64 t.it, u] 176 (0, 0)) ∧ t.ks = [t0] ∧ Dt.VR F w m u t0 := by
  simp only [Dt.VR] at h
  rcases h with q | q | q | q | q | q | q | ⟨k, q⟩ | ⟨k, q⟩ | ⟨k, q⟩ | q | ⟨k, b, u, t0, e1, e2, e3, e4, e5⟩ | q | q
  all_goals first | (exfalso; omega) | skip
  exact ⟨b, u, t0, e1, e4, e3, e5⟩
theorem vr_12 {F : Nat → Prop} {w : World} {m : Nat} {v : Value} {t : Dt.Tr (m + 1)} (h : Dt.VR F w (m + 1) v t) (hk : t.kd = 12) : v = .iface 155 (.pointer none) := by
  rcases Dt.vr_cases h with ⟨q, rfl⟩ | ⟨q, rfl⟩ | ⟨q, rfl⟩ | ⟨q, rfl⟩ | ⟨q, rfl⟩ | ⟨q, rfl⟩ | ⟨q, rfl⟩ | ⟨q, a, c, rfl⟩ | ⟨q, a, c, rfl⟩ | ⟨q, x, y, rfl, hx, hy⟩ | ⟨q, rfl⟩ | ⟨q, b, u, rfl, hh, hu⟩ | ⟨q, rfl⟩ | ⟨q, rfl⟩
  all_goals first | (exfalso; omega) | rfl

theorem gpOpen (W0 : World) (m : Nat) (t : Dt.Tr (m + 1)) (ak ai au : Int) (az : ByteArray) (aa : Option Addr) (an ac : Nat) (bk bi bu : Int) (bs : ByteArray) (ba : Option Addr) (bn bc : Nat) (num : Int) (h : Vl W0 m t ak ai au az aa an ac) (hk : ak = 11) (kid : Dt.Tr m) (hkid : t.ks = [kid]) (w : World) (hb : Below W0.heap.size W0 w) :
    Calls Tryz.prog 77 #[.agg (acs 5 ak ai au az aa an ac bk bi bu bs ba bn bc num)] w (GP 0 0 0 true m kid w) := by
  have S := st_rf (w.heap.size + 8) m kid
  obtain ⟨kr, kp, k6⟩ := h.kid (t' := kid) (by rw [hkid]; simp)
  refine (try_ret 5 ak ai au az aa an ac bk bi bu bs ba bn bc num w 0 0 0 0 true _ (st_four S (by omega)) fun wx hx zx => ?_).mono fun _ _ q => gp_rf (by omega) q
  refine done_open ak ai au az aa an ac bk bi bu bs ba bn bc num wx (w.heap.size + 8) (by omega) _ S fun wy hy zy => ?_
  refine popen_yes ak ai au az aa an ac wy (w.heap.size + 8) (by omega) _ S (fun wz hz => ?_) fun wz hz zz => ?_
  · exact pface_yes ak ai au az aa an ac 3 wz fun wq _ => mustFace_yes ak ai au az aa an ac 3 wq (by subst hk; rfl)
  · have hB : Below W0.heap.size W0 wz := ((hb.trans (hx.mono hb.size)).trans (hy.mono (by have := hb.size; omega))).trans (hz.mono (by have := hb.size; omega))
    refine (of_val W0 m t ak ai au az aa an ac wz h.rg h.ps h.rep hB).mono fun e w' ⟨v, he, _, vr, hb'⟩ => ?_
    obtain ⟨b, u, t0, rfl, e4, e2, e5⟩ := vr_11 vr.out (h.eq.1.trans hk)
    rw [hkid] at e2
    obtain rfl : kid = t0 := by simpa using e2
    refine ⟨b, t.it, u, he, ⟨e4, Dt.vr_any e5, fun wq hq => ?_⟩, hb'⟩
    refine (Dt.plain_any _ w' m kid u wq kr k6 kp e5 hq).mono fun e w'' ⟨v0, v1, v2, v3, v4, he, rf, hb''⟩ => ?_
    obtain ⟨u0, u1, u2, u3, a4, n4, c4', rfl, rfl, rfl, rfl, rfl⟩ := Dt.rep_shape (Dt.Rf.rep _ _ _ rf)
    exact ⟨u0, u1, u2, u3, a4, n4, c4', he, Dt.Rf.to (fun g hg => ⟨⟨by have := hq.size; have := hb'.size; omega, hg.2⟩, rfl⟩) _ _ _ rf, hb''⟩
theorem gpOpen_nil (W0 : World) (m : Nat) (t : Dt.Tr (m + 1)) (ak ai au : Int) (az : ByteArray) (aa : Option Addr) (an ac : Nat) (bk bi bu : Int) (bs : ByteArray) (ba : Option Addr) (bn bc : Nat) (num : Int) (h : Vl W0 m t ak ai au az aa an ac) (hk : ak = 12) (w : World) (hb : Below W0.heap.size W0 w) :
    Calls Tryz.prog 77 #[.agg (acs 5 ak ai au az aa an ac bk bi bu bs ba bn bc num)] w (GP 110 3 0 false 1 (lfT 0 0) w) := by
  refine (try_pan 5 ak ai au az aa an ac bk bi bu bs ba bn bc num w 183 (.agg #[]) 3 0 (ptold_nil) fun wx hx zx => ?_).mono fun _ _ q => gp_err q
  refine done_open_no ak ai au az aa an ac bk bi bu bs ba bn bc num _ _ wx fun wy hy => ?_
  refine popen_nil ak ai au az aa an ac wy (fun wz hz => ?_) fun wz hz => ?_
  · exact pface_yes ak ai au az aa an ac 3 wz fun wq _ => mustFace_yes ak ai au az aa an ac 3 wq (by subst hk; rfl)
  · have hB : Below W0.heap.size W0 wz := ((hb.trans (hx.mono hb.size)).trans (hy.mono (by have := hb.size; omega))).trans (hz.mono (by have := hb.size; have := hy.size; omega))
    refine (of_val W0 m t ak ai au az aa an ac wz h.rg h.ps h.rep hB).mono fun e w' ⟨v, he, _, vr, hb'⟩ => ?_
    obtain rfl := vr_12 vr.out (h.eq.1.trans hk)
    exact ⟨he, hb'⟩
theorem gpOpen_no (ak ai au : Int) (az : ByteArray) (aa : Option Addr) (an ac : Nat) (bk bi bu : Int) (bs : ByteArray) (ba : Option Addr) (bn bc : Nat) (num : Int) (hq : impl ak 3 = false) (w : World) :
    Calls Tryz.prog 77 #[.agg (acs 5 ak ai au az aa an ac bk bi bu bs ba bn bc num)] w (GP 110 2 (lackM ak 3) false 1 (lfT 0 0) w) := by
  refine (try_pan 5 ak ai au az aa an ac bk bi bu bs ba bn bc num w 182 (.int .i64 (lackM ak 3)) 2 (lackM ak 3) (ptold_assert (lackM ak 3)) fun wx hx zx => ?_).mono fun _ _ q => gp_err q
  refine done_open_no ak ai au az aa an ac bk bi bu bs ba bn bc num _ _ wx fun wy hy => ?_
  exact popen_no ak ai au (lackM ak 3) az aa an ac wy fun wz hz => pface_no ak ai au az aa an ac 3 (lackM ak 3) wz fun wq _ => mustFace_no ak ai au az aa an ac 3 wq hq

end Go.Proofs.YtajagjcfmaggiaaGreatDoor
/- A tree of no more depth than k is a tree of the type for k, with the same answers of the document's functions, and the same place in memory; and a tree whose blocks are known. No program. -/
namespace Go.Proofs.YtajagjcfmaggiaaGreatDoor.Dt
open Go.RowKit
theorem ptsL_snd {T : Type} (c : T → Int × Int) : ∀ (ks : List T) (p d : Int), d + 1 ≤ (ptsL c ks p d).2 ∧ ∀ t ∈ ks, (c t).2 + 1 ≤ (ptsL c ks p d).2
  | [], p, d => ⟨Int.le_refl _, fun t ht => by cases ht⟩
  | t :: ts, p, d => by
    have I := ptsL_snd c ts (p + (c t).1) (max d (c t).2)
    simp only [ptsL]
    refine ⟨?_, fun t' ht => ?_⟩
    · have := I.1; omega
    · rcases List.mem_cons.1 ht with rfl | ht
      · have := I.1; omega
      · exact I.2 t' ht
theorem list_at {T : Type} (P : Nat → T → Prop) : ∀ (len : Nat), (∀ i, i < len → ∃ t, P i t) → ∃ l : List T, l.length = len ∧ ∀ i t, l[i]? = some t → P i t := by
  intro len
  induction len with
  | zero => intro _; exact ⟨[], rfl, fun i t h => by simp at h⟩
  | succ len ih =>
    intro h
    obtain ⟨l, hl, hp⟩ := ih (fun i hi => h i (by omega))
    obtain ⟨t, ht⟩ := h len (by omega)
    refine ⟨l ++ [t], by simp [hl], fun i t' hi => ?_⟩
    by_cases hlt : i < l.length
    · rw [List.getElem?_append_left hlt] at hi; exact hp i t' hi
    · rw [List.getElem?_append_right (by omega)] at hi
      have h0 : i - l.length = 0 := by
        by_cases h1 : i - l.length = 0
        · exact h1
        · rw [List.getElem?_eq_none (by simp; omega)] at hi; cases hi
      rw [h0] at hi
      simp at hi
      have : i = len := by omega
      subst this; subst hi; exact ht
end Go.Proofs.YtajagjcfmaggiaaGreatDoor.Dt
/- How the model's floats, texts and whole numbers stand to each other: of two that are no NaN one is less or they are equal; less goes on; a NaN is not less, nor anything than it. No program. -/
namespace Go.Proofs.YtajagjcfmaggiaaGreatDoor.Dt
open Go.RowKit

theorem od_nan (a b : Ieee.Datum) (h : a.isNaN = true ∨ b.isNaN = true) : a.order b = none := by
  cases a <;> cases b <;> simp_all [Ieee.Datum.isNaN, Ieee.Datum.order]

end Go.Proofs.YtajagjcfmaggiaaGreatDoor.Dt
/- What the package's inner value makes of the kinds that have an order, and what its Less answers of two values of one such kind; each theorem names its conditions. -/
namespace Go.Proofs.YtajagjcfmaggiaaGreatDoor.Dt
open Go.RowKit

set_option maxRecDepth 100000 in
set_option maxHeartbeats 1000000 in
theorem odLeaf1 (r : Option Nat) (i u : Int) (s : ByteArray) (ad : Option Addr) (len cap : Nat) (w : World) :
    Calls Tryz.prog 86 #[.agg #[.map r], .agg #[.int .i64 1, .int .i64 i, .int .u64 u, .string s, .slice ad len cap]] w fun e w' => e = .returned (.iface 140 (.int .i64 i)) ∧ Below w.heap.size w w' := by
  have hf := frombits u
  go_enter Tryz.func86, Tryz.ntmps86
  go_wp2
  go_ret
  exact ⟨rfl, ((Below.refl _ w).alloc (Nat.le_refl _) _).alloc (by simp) _⟩

set_option maxRecDepth 100000 in
set_option maxHeartbeats 1000000 in
theorem odVal1 (i u : Int) (s : ByteArray) (ad : Option Addr) (len cap : Nat) (w : World) :
    Calls Tryz.prog 76 #[.agg #[.int .i64 1, .int .i64 i, .int .u64 u, .string s, .slice ad len cap]] w fun e w' => e = .returned (.iface 140 (.int .i64 i)) ∧ Below w.heap.size w w' := by
  go_enter Tryz.func76, Tryz.ntmps76
  go_wp2_with fail
  refine (odLeaf1 none i u s ad len cap _).mono ?_
  rintro e w1 ⟨rfl, b1⟩
  go_wp2
  go_ret
  exact ⟨rfl, ((Below.refl _ w).alloc (Nat.le_refl _) _).trans (b1.mono (by simp))⟩

set_option maxRecDepth 100000 in
set_option maxHeartbeats 1000000 in
theorem odLeaf3 (r : Option Nat) (i u : Int) (s : ByteArray) (ad : Option Addr) (len cap : Nat) (w : World) :
    Calls Tryz.prog 86 #[.agg #[.map r], .agg #[.int .i64 3, .int .i64 i, .int .u64 u, .string s, .slice ad len cap]] w fun e w' => e = .returned (.iface 142 (.float .f64 u.toNat)) ∧ Below w.heap.size w w' := by
  have hf := frombits u
  go_enter Tryz.func86, Tryz.ntmps86
  go_wp2
  go_ret
  exact ⟨rfl, ((Below.refl _ w).alloc (Nat.le_refl _) _).alloc (by simp) _⟩

set_option maxRecDepth 100000 in
set_option maxHeartbeats 1000000 in
theorem odVal3 (i u : Int) (s : ByteArray) (ad : Option Addr) (len cap : Nat) (w : World) :
    Calls Tryz.prog 76 #[.agg #[.int .i64 3, .int .i64 i, .int .u64 u, .string s, .slice ad len cap]] w fun e w' => e = .returned (.iface 142 (.float .f64 u.toNat)) ∧ Below w.heap.size w w' := by
  go_enter Tryz.func76, Tryz.ntmps76
  go_wp2_with fail
  refine (odLeaf3 none i u s ad len cap _).mono ?_
  rintro e w1 ⟨rfl, b1⟩
  go_wp2
  go_ret
  exact ⟨rfl, ((Below.refl _ w).alloc (Nat.le_refl _) _).trans (b1.mono (by simp))⟩

end Go.Proofs.YtajagjcfmaggiaaGreatDoor.Dt
/- The document's Copy of a value's tree: the same tree in new blocks; the conditions: the tree in memory, of 4096 parts at most. -/
namespace Go.Proofs.YtajagjcfmaggiaaGreatDoor.Dt
open Go.RowKit

theorem set_blk {w : World} {N o : Nat} {cs : Array Value} (h : w.heap[N]? = some (.cells cs 25 (0, 0))) (v : Value) : (w.setCell ⟨N, o, none⟩ v).heap[N]? = some (.cells (cs.setIfInBounds o v) 25 (0, 0)) := by
  simp [World.setCell, Array.getElem?_modify, h]
theorem D5.set {w : World} {N : Nat} {v0 v1 v2 v3 v4 : Value} (h : D5 w N v0 v1 v2 v3 v4) (u0 u1 u2 u3 u4 : Value) :
    D5 (((((w.setCell ⟨N, 0, none⟩ u0).setCell ⟨N, 1, none⟩ u1).setCell ⟨N, 2, none⟩ u2).setCell ⟨N, 3, none⟩ u3).setCell ⟨N, 4, none⟩ u4) N u0 u1 u2 u3 u4 :=
  set_blk (set_blk (set_blk (set_blk (set_blk h u0) u1) u2) u3) u4
end Go.Proofs.YtajagjcfmaggiaaGreatDoor.Dt
/- The package's Open and the document's of a value's tree: the same; the conditions: the tree in memory, valid, its bits within 64. -/
namespace Go.Proofs.YtajagjcfmaggiaaGreatDoor.Dt
open Go.RowKit
/-- The value of no kind. -/
abbrev T0 : Tr 1 := ((0, 0, 0, ⟨#[]⟩, []) : Int × Int × Int × ByteArray × List (Tr 0))
end Go.Proofs.YtajagjcfmaggiaaGreatDoor.Dt
