/- The package's value, with boxes by number, of a valid value's tree: what == is then asked of; the conditions: the tree in memory and valid, of 4096 parts at most, the map and its boxes in memory. -/
import Derived.Test.YtgijdiplhcoojaaGreatDoorJbe
import Derived.Test.YtgijdiplhcoojaaGreatDoorJag
import Derived.Laws.IdiomStrings
namespace Go.Proofs.YtgijdiplhcoojaaGreatDoor.Dt
open Go.RowKit
theorem frombits (u : Int) (w : World) : (callFunc 49 #[.int .u64 u]).run Tryz.prog w = .ok (.value (.float .f64 u.toNat)) w := by kernel_rfl
set_option maxRecDepth 100000 in
set_option maxHeartbeats 1000000 in
theorem shLeaf0 (r : Option Nat) (i u : Int) (s : ByteArray) (ad : Option Addr) (len cap : Nat) (w : World) :
    Calls Tryz.prog 48 #[.agg #[.map r], .agg #[.int .i64 0, .int .i64 i, .int .u64 u, .string s, .slice ad len cap]] w fun e w' => e = .returned (.nilIface) ∧ Below w.heap.size w w' := by
  go_enter Tryz.func48, Tryz.ntmps48
  go_wp2
  go_ret
  exact ⟨rfl, ((Below.refl _ w).alloc (Nat.le_refl _) _).alloc (by simp) _⟩
set_option maxRecDepth 100000 in
set_option maxHeartbeats 1000000 in
theorem shLeaf1 (r : Option Nat) (i u : Int) (s : ByteArray) (ad : Option Addr) (len cap : Nat) (w : World) :
    Calls Tryz.prog 48 #[.agg #[.map r], .agg #[.int .i64 1, .int .i64 i, .int .u64 u, .string s, .slice ad len cap]] w fun e w' => e = .returned (.iface 94 (.int .i64 i)) ∧ Below w.heap.size w w' := by
  go_enter Tryz.func48, Tryz.ntmps48
  go_wp2
  go_ret
  exact ⟨rfl, ((Below.refl _ w).alloc (Nat.le_refl _) _).alloc (by simp) _⟩
set_option maxRecDepth 100000 in
set_option maxHeartbeats 1000000 in
theorem shLeaf2 (r : Option Nat) (i u : Int) (s : ByteArray) (ad : Option Addr) (len cap : Nat) (w : World) :
    Calls Tryz.prog 48 #[.agg #[.map r], .agg #[.int .i64 2, .int .i64 i, .int .u64 u, .string s, .slice ad len cap]] w fun e w' => e = .returned (.iface 107 (.int .i64 i)) ∧ Below w.heap.size w w' := by
  go_enter Tryz.func48, Tryz.ntmps48
  go_wp2
  go_ret
  exact ⟨rfl, ((Below.refl _ w).alloc (Nat.le_refl _) _).alloc (by simp) _⟩
set_option maxRecDepth 100000 in
set_option maxHeartbeats 1000000 in
theorem shLeaf3 (r : Option Nat) (i u : Int) (s : ByteArray) (ad : Option Addr) (len cap : Nat) (w : World) :
    Calls Tryz.prog 48 #[.agg #[.map r], .agg #[.int .i64 3, .int .i64 i, .int .u64 u, .string s, .slice ad len cap]] w fun e w' => e = .returned (.iface 108 (.float .f64 u.toNat)) ∧ Below w.heap.size w w' := by
  have hf := frombits u
  go_enter Tryz.func48, Tryz.ntmps48
  go_wp2
  go_ret
  exact ⟨rfl, ((Below.refl _ w).alloc (Nat.le_refl _) _).alloc (by simp) _⟩
set_option maxRecDepth 100000 in
set_option maxHeartbeats 1000000 in
theorem shLeaf4 (r : Option Nat) (i u : Int) (s : ByteArray) (ad : Option Addr) (len cap : Nat) (w : World) :
    Calls Tryz.prog 48 #[.agg #[.map r], .agg #[.int .i64 4, .int .i64 i, .int .u64 u, .string s, .slice ad len cap]] w fun e w' => e = .returned (.iface 109 (.string s)) ∧ Below w.heap.size w w' := by
  go_enter Tryz.func48, Tryz.ntmps48
  go_wp2
  go_ret
  exact ⟨rfl, ((Below.refl _ w).alloc (Nat.le_refl _) _).alloc (by simp) _⟩
set_option maxRecDepth 100000 in
set_option maxHeartbeats 1000000 in
theorem shLeaf5 (r : Option Nat) (i u : Int) (s : ByteArray) (ad : Option Addr) (len cap : Nat) (w : World) :
    Calls Tryz.prog 48 #[.agg #[.map r], .agg #[.int .i64 5, .int .i64 i, .int .u64 u, .string s, .slice ad len cap]] w fun e w' => e = .returned (.iface 110 (.string s)) ∧ Below w.heap.size w w' := by
  go_enter Tryz.func48, Tryz.ntmps48
  go_wp2
  go_ret
  exact ⟨rfl, ((Below.refl _ w).alloc (Nat.le_refl _) _).alloc (by simp) _⟩
set_option maxRecDepth 100000 in
set_option maxHeartbeats 1000000 in
theorem shLeaf6 (r : Option Nat) (i u : Int) (s : ByteArray) (ad : Option Addr) (len cap : Nat) (w : World) :
    Calls Tryz.prog 48 #[.agg #[.map r], .agg #[.int .i64 6, .int .i64 i, .int .u64 u, .string s, .slice ad len cap]] w fun e w' => e = .returned (.iface 95 (.bool (i != 0))) ∧ Below w.heap.size w w' := by
  go_enter Tryz.func48, Tryz.ntmps48
  go_wp2
  go_ret
  exact ⟨rfl, ((Below.refl _ w).alloc (Nat.le_refl _) _).alloc (by simp) _⟩
set_option maxRecDepth 100000 in
set_option maxHeartbeats 1000000 in
theorem shLeaf10 (r : Option Nat) (i u : Int) (s : ByteArray) (ad : Option Addr) (len cap : Nat) (w : World) :
    Calls Tryz.prog 48 #[.agg #[.map r], .agg #[.int .i64 10, .int .i64 i, .int .u64 u, .string s, .slice ad len cap]] w fun e w' => e = .returned (.iface 120 (.agg #[.int .i64 i, .string s])) ∧ Below w.heap.size w w' := by
  go_enter Tryz.func48, Tryz.ntmps48
  go_wp2
  go_ret
  exact ⟨rfl, ((Below.refl _ w).alloc (Nat.le_refl _) _).alloc (by simp) _⟩
set_option maxRecDepth 100000 in
set_option maxHeartbeats 1000000 in
theorem shLeaf12 (r : Option Nat) (i u : Int) (s : ByteArray) (ad : Option Addr) (len cap : Nat) (w : World) :
    Calls Tryz.prog 48 #[.agg #[.map r], .agg #[.int .i64 12, .int .i64 i, .int .u64 u, .string s, .slice ad len cap]] w fun e w' => e = .returned (.iface 121 (.pointer none)) ∧ Below w.heap.size w w' := by
  go_enter Tryz.func48, Tryz.ntmps48
  go_wp2
  go_ret
  exact ⟨rfl, ((Below.refl _ w).alloc (Nat.le_refl _) _).alloc (by simp) _⟩
set_option maxRecDepth 100000 in
set_option maxHeartbeats 1000000 in
theorem shLeaf13 (r : Option Nat) (i u : Int) (s : ByteArray) (ad : Option Addr) (len cap : Nat) (w : World) :
    Calls Tryz.prog 48 #[.agg #[.map r], .agg #[.int .i64 13, .int .i64 i, .int .u64 u, .string s, .slice ad len cap]] w fun e w' => e = .returned (.iface 124 (.agg #[])) ∧ Below w.heap.size w w' := by
  go_enter Tryz.func48, Tryz.ntmps48
  go_wp2
  go_ret
  exact ⟨rfl, ((Below.refl _ w).alloc (Nat.le_refl _) _).alloc (by simp) _⟩
set_option maxRecDepth 100000 in
set_option maxHeartbeats 1000000 in
theorem shLeaf7 (r : Option Nat) (i u : Int) (s : ByteArray) (ad : Option Addr) (len cap : Nat) (w : World) :
    Calls Tryz.prog 48 #[.agg #[.map r], .agg #[.int .i64 7, .int .i64 i, .int .u64 u, .string s, .slice ad len cap]] w fun e w' => ∃ x, e = .returned (.iface 112 x) ∧ Below w.heap.size w w' := by
  have hcv : ∀ w : World, (convert 9 112 (.string s)).run Tryz.prog w = _ := fun w => run_bytes_of_string (P := Tryz.prog) w 9 112 5 s Tryz.underlying9 Tryz.underlying112 Tryz.underlying5
  go_enter Tryz.func48, Tryz.ntmps48
  go_wp2
  go_ret
  exact ⟨_, rfl, (((Below.refl _ w).alloc (Nat.le_refl _) _).alloc (by simp) _).drew.alloc (by simp [World.drew]; omega) _⟩

theorem vs_mono {l l' : List (Int × Nat)} (h : ∀ x ∈ l, x ∈ l') : ∀ (n : Nat) (v : Value) (t : Tr n), VS l n v t → VS l' n v t
  | 0, _, _, hv => hv
  | n + 1, v, t, hv => by
    simp only [VS] at hv ⊢
    rcases hv with q | q | q | q | q | q | q | q | q | ⟨k, x, y, t0, t1, e1, e2, e3, e4⟩ | q | ⟨k, b, e1, e2⟩ | q | q
    case inr.inr.inr.inr.inr.inr.inr.inr.inr.inl => exact .inr (.inr (.inr (.inr (.inr (.inr (.inr (.inr (.inr (.inl ⟨k, x, y, t0, t1, e1, e2, vs_mono h n _ _ e3, vs_mono h n _ _ e4⟩)))))))))
    case inr.inr.inr.inr.inr.inr.inr.inr.inr.inr.inr.inl => exact .inr (.inr (.inr (.inr (.inr (.inr (.inr (.inr (.inr (.inr (.inr (.inl ⟨k, b, h _ e1, e2⟩)))))))))))
    all_goals simp only [q, true_or, or_true, true_and]
/-- What a call of place leaves as it is. -/
structure Kp (W0 w : World) (r : Nat) (l : List (Int × Nat)) (it ut : Int) (tx : ByteArray) (ad : Option Addr) (len cap : Nat) (l' : List (Int × Nat)) (w' : World) : Prop where
  m : Mp w' r l'
  x : Bx w' l'
  s : ∀ x ∈ l, x ∈ l'
  g : w.grownBy w' (some r)
  b : Below W0.heap.size W0 w'
  c : C1 w' w.heap.size 85 (.map (some r))
  d : D5 w' (w.heap.size + 1) (.int .i64 9) (.int .i64 it) (.int .u64 ut) (.string tx) (.slice ad len cap)
theorem Kp.drew {W0 w : World} {r : Nat} {l : List (Int × Nat)} {it ut : Int} {tx : ByteArray} {ad : Option Addr} {len cap : Nat} {l' : List (Int × Nat)} {w' : World} (h : Kp W0 w r l it ut tx ad len cap l' w') : Kp W0 w r l it ut tx ad len cap l' w'.drew :=
  have q : Below w'.heap.size w' w'.drew := Below.drew (Below.refl _ _)
  ⟨h.m.below q, h.x.below q, h.s, grown_trans h.g (grown_below q), h.b.drew, h.c.below q, h.d.below q⟩
theorem Kp.step {W0 w : World} {r : Nat} {l : List (Int × Nat)} {it ut : Int} {tx : ByteArray} {ad : Option Addr} {len cap : Nat} {l1 l2 : List (Int × Nat)} {w1 w2 : World} (h : Kp W0 w r l it ut tx ad len cap l1 w1) (hl : r < w.heap.size) (hr : W0.heap.size ≤ r) (hs : W0.heap.size ≤ w.heap.size) (sh : ShT w1 w2 r l1 l2) : Kp W0 w r l it ut tx ad len cap l2 w2 := by
  obtain ⟨a1, a2, a3, a4⟩ := sh
  exact ⟨a1, a2, fun x hx => a3 x (h.s x hx), grown_trans h.g a4, h.b.grown a4 (Nat.le_trans hs h.g.size) (fun k hk => by have := Option.some.inj hk; omega), h.c.kept a4 (by omega), h.d.kept a4 (by omega)⟩
/-- Nil, or a value in an interface. -/
def Sx (v : Value) : Prop := v = .nilIface ∨ ∃ T z, v = .iface T z
/-- The tree of nil. -/
def nilT : (n : Nat) → Tr n → Prop
  | 0, _ => False
  | _ + 1, t => t.kd = 0
theorem vs_nil {l : List (Int × Nat)} {n : Nat} {v : Value} {t : Tr n} (h : VS l n v t) (k : nilT n t) : v = .nilIface := by
  match n, t, h, k with
  | n + 1, t, h, k =>
    rcases vs_ty h with ⟨-, e⟩ | ⟨h1, -⟩
    · exact e
    · simp only [nilT] at k; omega
theorem vs_val {l : List (Int × Nat)} {n : Nat} {v : Value} {t : Tr n} (h : VS l n v t) (k : ¬ nilT n t) : ∃ T z, v = .iface T z := by
  match n, t, h, k with
  | n + 1, t, h, k =>
    rcases vs_ty h with ⟨e, -⟩ | ⟨-, -, z, e⟩
    · exact absurd e k
    · exact ⟨_, z, e⟩
theorem list_two {T : Type} {l : List T} (h : l.length = 2) : ∃ a b, l = [a, b] := by
  match l, h with
  | [a, b], _ => exact ⟨a, b, rfl⟩

set_option maxRecDepth 100000 in
set_option maxHeartbeats 2000000 in
theorem value_sh (W0 : World) (r : Nat) (hr : W0.heap.size ≤ r) : ∀ (m : Nat) (t : Tr m) (v0 v1 v2 v3 v4 : Value) (l : List (Int × Nat)) (w : World), rgt m t = true → (pts m t).1 ≤ 4096 → Rep W0 m [v0, v1, v2, v3, v4] t → Below W0.heap.size W0 w → Mp w r l → Bx w l →
      Calls Tryz.prog 48 #[.agg #[.map (some r)], .agg #[v0, v1, v2, v3, v4]] w fun e w' => ∃ v l', e = .returned v ∧ VS l' m v t ∧ ShT w w' r l l' := by
  intro m
  induction m with
  | zero => intro t; exact t.elim
  | succ n ih =>
    intro t v0 v1 v2 v3 v4 l w hrg hps hrep hb0 hm hb
    obtain ⟨ad, cap, e, htx, hlen, hcap, hk⟩ := hrep
    simp only [List.cons.injEq, and_true] at e
    obtain ⟨rfl, rfl, rfl, rfl, rfl⟩ := e
    obtain ⟨hp1, hp2⟩ := pts_kids hps
    simp only [rgt, Bool.and_eq_true] at hrg
    obtain ⟨hok, hall⟩ := hrg
    have okp := ok_plain hok
    have fin : ∀ (v : Value) (e : Ending), VS l (n + 1) v t → ∀ w', e = .returned v ∧ Below w.heap.size w w' → ∃ v l', e = .returned v ∧ VS l' (n + 1) v t ∧ ShT w w' r l l' := fun v e hv w' hw =>
      ⟨v, l, hw.1, hv, hm.below hw.2, hb.below hw.2, fun _ h => h, grown_below hw.2⟩
    obtain h | h | h | h | h | h | h | h | h | h | h | h | h | h : t.kd = 0 ∨ t.kd = 1 ∨ t.kd = 2 ∨ t.kd = 3 ∨ t.kd = 4 ∨ t.kd = 5 ∨ t.kd = 6 ∨ t.kd = 7 ∨ t.kd = 8 ∨ t.kd = 9 ∨ t.kd = 10 ∨ t.kd = 11 ∨ t.kd = 12 ∨ t.kd = 13 := by omega
    · rw [h]
      exact (shLeaf0 (some r) t.it t.ut t.tx ad t.ks.length cap w).mono fun e w' hw => fin _ e (by simp [VS, h]) w' hw
    · rw [h]
      exact (shLeaf1 (some r) t.it t.ut t.tx ad t.ks.length cap w).mono fun e w' hw => fin _ e (by simp [VS, h]) w' hw
    · rw [h]
      exact (shLeaf2 (some r) t.it t.ut t.tx ad t.ks.length cap w).mono fun e w' hw => fin _ e (by simp [VS, h]) w' hw
    · rw [h]
      exact (shLeaf3 (some r) t.it t.ut t.tx ad t.ks.length cap w).mono fun e w' hw => fin _ e (by simp [VS, h]) w' hw
    · rw [h]
      exact (shLeaf4 (some r) t.it t.ut t.tx ad t.ks.length cap w).mono fun e w' hw => fin _ e (by simp [VS, h]) w' hw
    · rw [h]
      exact (shLeaf5 (some r) t.it t.ut t.tx ad t.ks.length cap w).mono fun e w' hw => fin _ e (by simp [VS, h]) w' hw
    · rw [h]
      exact (shLeaf6 (some r) t.it t.ut t.tx ad t.ks.length cap w).mono fun e w' hw => fin _ e (by simp [VS, h]) w' hw
    · rw [h]
      exact (shLeaf7 (some r) t.it t.ut t.tx ad t.ks.length cap w).mono fun e w' ⟨x, hw⟩ => fin (.iface 112 x) e (by simp [VS, h]) w' hw
    · rw [h]
      have b2 : Below w.heap.size w ((w.alloc (.cells #[.map (some r)] 85)).alloc (.cells #[.int .i64 8, .int .i64 t.it, .int .u64 t.ut, .string t.tx, .slice ad t.ks.length cap] 25)) := ((Below.refl _ w).alloc (Nat.le_refl _) _).alloc (by simp) _
      have HC := Lib.hid (row_sh W0 r hr n t.ks ih ad cap l _ (hb0.trans (b2.mono hb0.size)) (hm.below b2) (hb.below b2) hp1 hall hp2 hk)
      have HF : Hid (∀ (v : Value) (l' : List (Int × Nat)) (w' : World), ShT ((w.alloc (.cells #[.map (some r)] 85)).alloc (.cells #[.int .i64 8, .int .i64 t.it, .int .u64 t.ut, .string t.tx, .slice ad t.ks.length cap] 25)) w' r l l' → ∃ v' l'', Ending.returned (.iface 114 v) = .returned v' ∧ VS l'' (n + 1) v' t ∧ ShT w w' r l l'') := fun v l' w' ⟨a1, a2, a3, a4⟩ => ⟨_, l', rfl, by simp [VS, h], a1, a2, a3, grown_trans (grown_below b2) a4⟩
      clear ih hk hall hp2 fin okp hok hps h
      go_enter Tryz.func48, Tryz.ntmps48
      go_wp2_with fail
      refine HC.out.mono ?_
      rintro e w2 ⟨v, l2, rfl, sh⟩
      go_wp2
      go_ret
      exact HF.out v l2 _ sh
    · rw [h]
      have h2 : t.ks.length = 2 := okp.2.1 h
      have HN := Lib.hid (And.intro h h2)
      have HKP : Hid (∀ (j : Int) (q : Nat) (_ : j = q) (hq : q < t.ks.length) (l1 : List (Int × Nat)) (wx : World), Kp W0 w r l t.it t.ut t.tx ad t.ks.length cap l1 wx → Calls Tryz.prog 59 #[.agg #[.map (some r)], .slice ad t.ks.length cap, .int .i64 j] wx fun e w' => ∃ v l', e = .returned v ∧ Sx v ∧ Hid (VS l' n v t.ks[q]) ∧ Hid (∀ x ∈ l1, x ∈ l') ∧ Kp W0 w r l t.it t.ut t.tx ad t.ks.length cap l' w') := fun j q e hq l1 wx kx => by
        subst e
        exact (place_sh W0 r n t.ks ih ad cap l1 wx hr kx.b kx.m kx.x hall hp2 hk q hq).mono fun e w' ⟨v, l', he, vs, sh⟩ => ⟨v, l', he, vs_any vs, vs, sh.2.2.1, kx.step hm.lt hr hb0.size sh⟩
      clear ih hk hall hp2 fin okp hok hps h hp1
      have b2 : Below w.heap.size w ((w.alloc (.cells #[.map (some r)] 85)).alloc (.cells #[.int .i64 9, .int .i64 t.it, .int .u64 t.ut, .string t.tx, .slice ad t.ks.length cap] 25)) := ((Below.refl _ w).alloc (Nat.le_refl _) _).alloc (by simp) _
      have kp0 : Kp W0 w r l t.it t.ut t.tx ad t.ks.length cap l ((w.alloc (.cells #[.map (some r)] 85)).alloc (.cells #[.int .i64 9, .int .i64 t.it, .int .u64 t.ut, .string t.tx, .slice ad t.ks.length cap] 25)) := by
        refine ⟨hm.below b2, hb.below b2, fun _ h => h, grown_below b2, hb0.trans (b2.mono hb0.size), (C1.new w 85 _).below (below1 _ _), ?_⟩
        have := D5.new (w.alloc (.cells #[.map (some r)] 85)) (.int .i64 9) (.int .i64 t.it) (.int .u64 t.ut) (.string t.tx) (.slice ad t.ks.length cap)
        rwa [World.size_alloc] at this
      have KS : Hid (∀ (l' : List (Int × Nat)) (w' : World), Kp W0 w r l t.it t.ut t.tx ad t.ks.length cap l' w' → w'.cell? ⟨w.heap.size, 0, none⟩ = some (.map (some r)) ∧ w'.cell? ⟨w.heap.size + 1, 4, none⟩ = some (.slice ad t.ks.length cap)) := fun l' w' k => ⟨k.c.c, k.d.c.2.2.2.2⟩
      have HF : Hid (∀ (va vb : Value) (la lb : List (Int × Nat)) (w' : World) (h0 : 0 < t.ks.length) (h1 : 1 < t.ks.length), Hid (VS la n va t.ks[0]) → Hid (∀ x ∈ la, x ∈ lb) → Hid (VS lb n vb t.ks[1]) → Kp W0 w r l t.it t.ut t.tx ad t.ks.length cap lb w' → ∃ v' l'', Ending.returned (.iface 118 (.agg #[va, vb])) = .returned v' ∧ VS l'' (n + 1) v' t ∧ ShT w w' r l l'') := fun va vb la lb w' h0 h1 v1 mo v2 k => by
        obtain ⟨hkd, hl2⟩ := HN.out
        obtain ⟨t0, t1, e2⟩ := list_two hl2
        refine ⟨_, lb, rfl, ?_, k.m, k.x, k.s, k.g⟩
        have e0 : t.ks[0] = t0 := by simp [e2]
        have e1 : t.ks[1] = t1 := by simp [e2]
        have v1' := v1.out
        have v2' := v2.out
        rw [e0] at v1'
        rw [e1] at v2'
        simp only [VS, hkd]
        simp
        exact ⟨_, _, ⟨rfl, rfl⟩, t0, t1, e2, vs_mono mo.out n _ _ v1', v2'⟩
      have h01 : Hid (0 < t.ks.length ∧ 1 < t.ks.length) := ⟨by omega, by omega⟩
      clear hm hb hb0 htx hlen hcap b2 h2
      by_cases hA : nilT n (t.ks[0]'h01.out.1)
      · by_cases hB : nilT n (t.ks[1]'h01.out.2)
        · have KA : Hid (∀ (l1 : List (Int × Nat)) (wx : World), Kp W0 w r l t.it t.ut t.tx ad t.ks.length cap l1 wx → Calls Tryz.prog 59 #[.agg #[.map (some r)], .slice ad t.ks.length cap, .int .i64 0] wx fun e w' => ∃ l', e = .returned Value.nilIface ∧ Sx Value.nilIface ∧ Hid (VS l' n Value.nilIface (t.ks[0]'h01.out.1)) ∧ Hid (∀ x ∈ l1, x ∈ l') ∧ Kp W0 w r l t.it t.ut t.tx ad t.ks.length cap l' w') := fun l1 wx kx =>
            (HKP.out 0 0 rfl h01.out.1 l1 wx kx).mono fun e w' ⟨v, l', he, sx, vs, mo, k⟩ => by obtain rfl := vs_nil vs.out hA; exact ⟨l', he, sx, vs, mo, k⟩
          have KB : Hid (∀ (l1 : List (Int × Nat)) (wx : World), Kp W0 w r l t.it t.ut t.tx ad t.ks.length cap l1 wx → Calls Tryz.prog 59 #[.agg #[.map (some r)], .slice ad t.ks.length cap, .int .i64 1] wx fun e w' => ∃ l', e = .returned Value.nilIface ∧ Sx Value.nilIface ∧ Hid (VS l' n Value.nilIface (t.ks[1]'h01.out.2)) ∧ Hid (∀ x ∈ l1, x ∈ l') ∧ Kp W0 w r l t.it t.ut t.tx ad t.ks.length cap l' w') := fun l1 wx kx =>
            (HKP.out 1 1 rfl h01.out.2 l1 wx kx).mono fun e w' ⟨v, l', he, sx, vs, mo, k⟩ => by obtain rfl := vs_nil vs.out hB; exact ⟨l', he, sx, vs, mo, k⟩
          clear HKP hA hB
          go_enter Tryz.func48, Tryz.ntmps48
          go_wp2_with fail
          go_region_held3 (fun w' => w'.cell? ⟨w.heap.size, 0, none⟩ = some (.map (some r)) ∧ w'.cell? ⟨w.heap.size + 1, 4, none⟩ = some (.slice ad t.ks.length cap)) (exact KS.out _ _ (by first | assumption | exact Kp.drew (by assumption))) (first | (go_at_call 59; have hs0 := ‹Sx _›; refine (KB.out _ _ (by first | assumption | exact Kp.drew (by assumption))).mono ?_; rintro e wb ⟨lb, rfl, sb, VB, mb, kb⟩) | (go_at_call 59; refine (KA.out _ _ (by first | assumption | exact Kp.drew (by assumption))).mono ?_; rintro e wa ⟨la, rfl, sa, VA, ma, ka⟩))
          all_goals go_wp2
          all_goals go_ret
          all_goals exact HF.out .nilIface .nilIface la lb _ h01.out.1 h01.out.2 VA mb VB kb
        · have KA : Hid (∀ (l1 : List (Int × Nat)) (wx : World), Kp W0 w r l t.it t.ut t.tx ad t.ks.length cap l1 wx → Calls Tryz.prog 59 #[.agg #[.map (some r)], .slice ad t.ks.length cap, .int .i64 0] wx fun e w' => ∃ l', e = .returned Value.nilIface ∧ Sx Value.nilIface ∧ Hid (VS l' n Value.nilIface (t.ks[0]'h01.out.1)) ∧ Hid (∀ x ∈ l1, x ∈ l') ∧ Kp W0 w r l t.it t.ut t.tx ad t.ks.length cap l' w') := fun l1 wx kx =>
            (HKP.out 0 0 rfl h01.out.1 l1 wx kx).mono fun e w' ⟨v, l', he, sx, vs, mo, k⟩ => by obtain rfl := vs_nil vs.out hA; exact ⟨l', he, sx, vs, mo, k⟩
          have KB : Hid (∀ (l1 : List (Int × Nat)) (wx : World), Kp W0 w r l t.it t.ut t.tx ad t.ks.length cap l1 wx → Calls Tryz.prog 59 #[.agg #[.map (some r)], .slice ad t.ks.length cap, .int .i64 1] wx fun e w' => ∃ T z l', e = .returned (Value.iface T z) ∧ Sx (Value.iface T z) ∧ Hid (VS l' n (Value.iface T z) (t.ks[1]'h01.out.2)) ∧ Hid (∀ x ∈ l1, x ∈ l') ∧ Kp W0 w r l t.it t.ut t.tx ad t.ks.length cap l' w') := fun l1 wx kx =>
            (HKP.out 1 1 rfl h01.out.2 l1 wx kx).mono fun e w' ⟨v, l', he, sx, vs, mo, k⟩ => by obtain ⟨T, z, rfl⟩ := vs_val vs.out hB; exact ⟨T, z, l', he, sx, vs, mo, k⟩
          clear HKP hA hB
          go_enter Tryz.func48, Tryz.ntmps48
          go_wp2_with fail
          go_region_held3 (fun w' => w'.cell? ⟨w.heap.size, 0, none⟩ = some (.map (some r)) ∧ w'.cell? ⟨w.heap.size + 1, 4, none⟩ = some (.slice ad t.ks.length cap)) (exact KS.out _ _ (by first | assumption | exact Kp.drew (by assumption))) (first | (go_at_call 59; have hs0 := ‹Sx _›; refine (KB.out _ _ (by first | assumption | exact Kp.drew (by assumption))).mono ?_; rintro e wb ⟨Tb, zb, lb, rfl, sb, VB, mb, kb⟩) | (go_at_call 59; refine (KA.out _ _ (by first | assumption | exact Kp.drew (by assumption))).mono ?_; rintro e wa ⟨la, rfl, sa, VA, ma, ka⟩))
          all_goals go_wp2
          all_goals go_ret
          all_goals exact HF.out .nilIface (.iface Tb zb) la lb _ h01.out.1 h01.out.2 VA mb VB kb
      · by_cases hB : nilT n (t.ks[1]'h01.out.2)
        · have KA : Hid (∀ (l1 : List (Int × Nat)) (wx : World), Kp W0 w r l t.it t.ut t.tx ad t.ks.length cap l1 wx → Calls Tryz.prog 59 #[.agg #[.map (some r)], .slice ad t.ks.length cap, .int .i64 0] wx fun e w' => ∃ T z l', e = .returned (Value.iface T z) ∧ Sx (Value.iface T z) ∧ Hid (VS l' n (Value.iface T z) (t.ks[0]'h01.out.1)) ∧ Hid (∀ x ∈ l1, x ∈ l') ∧ Kp W0 w r l t.it t.ut t.tx ad t.ks.length cap l' w') := fun l1 wx kx =>
            (HKP.out 0 0 rfl h01.out.1 l1 wx kx).mono fun e w' ⟨v, l', he, sx, vs, mo, k⟩ => by obtain ⟨T, z, rfl⟩ := vs_val vs.out hA; exact ⟨T, z, l', he, sx, vs, mo, k⟩
          have KB : Hid (∀ (l1 : List (Int × Nat)) (wx : World), Kp W0 w r l t.it t.ut t.tx ad t.ks.length cap l1 wx → Calls Tryz.prog 59 #[.agg #[.map (some r)], .slice ad t.ks.length cap, .int .i64 1] wx fun e w' => ∃ l', e = .returned Value.nilIface ∧ Sx Value.nilIface ∧ Hid (VS l' n Value.nilIface (t.ks[1]'h01.out.2)) ∧ Hid (∀ x ∈ l1, x ∈ l') ∧ Kp W0 w r l t.it t.ut t.tx ad t.ks.length cap l' w') := fun l1 wx kx =>
            (HKP.out 1 1 rfl h01.out.2 l1 wx kx).mono fun e w' ⟨v, l', he, sx, vs, mo, k⟩ => by obtain rfl := vs_nil vs.out hB; exact ⟨l', he, sx, vs, mo, k⟩
          clear HKP hA hB
          go_enter Tryz.func48, Tryz.ntmps48
          go_wp2_with fail
          go_region_held3 (fun w' => w'.cell? ⟨w.heap.size, 0, none⟩ = some (.map (some r)) ∧ w'.cell? ⟨w.heap.size + 1, 4, none⟩ = some (.slice ad t.ks.length cap)) (exact KS.out _ _ (by first | assumption | exact Kp.drew (by assumption))) (first | (go_at_call 59; have hs0 := ‹Sx _›; refine (KB.out _ _ (by first | assumption | exact Kp.drew (by assumption))).mono ?_; rintro e wb ⟨lb, rfl, sb, VB, mb, kb⟩) | (go_at_call 59; refine (KA.out _ _ (by first | assumption | exact Kp.drew (by assumption))).mono ?_; rintro e wa ⟨Ta, za, la, rfl, sa, VA, ma, ka⟩))
          all_goals go_wp2
          all_goals go_ret
          all_goals exact HF.out (.iface Ta za) .nilIface la lb _ h01.out.1 h01.out.2 VA mb VB kb
        · have KA : Hid (∀ (l1 : List (Int × Nat)) (wx : World), Kp W0 w r l t.it t.ut t.tx ad t.ks.length cap l1 wx → Calls Tryz.prog 59 #[.agg #[.map (some r)], .slice ad t.ks.length cap, .int .i64 0] wx fun e w' => ∃ T z l', e = .returned (Value.iface T z) ∧ Sx (Value.iface T z) ∧ Hid (VS l' n (Value.iface T z) (t.ks[0]'h01.out.1)) ∧ Hid (∀ x ∈ l1, x ∈ l') ∧ Kp W0 w r l t.it t.ut t.tx ad t.ks.length cap l' w') := fun l1 wx kx =>
            (HKP.out 0 0 rfl h01.out.1 l1 wx kx).mono fun e w' ⟨v, l', he, sx, vs, mo, k⟩ => by obtain ⟨T, z, rfl⟩ := vs_val vs.out hA; exact ⟨T, z, l', he, sx, vs, mo, k⟩
          have KB : Hid (∀ (l1 : List (Int × Nat)) (wx : World), Kp W0 w r l t.it t.ut t.tx ad t.ks.length cap l1 wx → Calls Tryz.prog 59 #[.agg #[.map (some r)], .slice ad t.ks.length cap, .int .i64 1] wx fun e w' => ∃ T z l', e = .returned (Value.iface T z) ∧ Sx (Value.iface T z) ∧ Hid (VS l' n (Value.iface T z) (t.ks[1]'h01.out.2)) ∧ Hid (∀ x ∈ l1, x ∈ l') ∧ Kp W0 w r l t.it t.ut t.tx ad t.ks.length cap l' w') := fun l1 wx kx =>
            (HKP.out 1 1 rfl h01.out.2 l1 wx kx).mono fun e w' ⟨v, l', he, sx, vs, mo, k⟩ => by obtain ⟨T, z, rfl⟩ := vs_val vs.out hB; exact ⟨T, z, l', he, sx, vs, mo, k⟩
          clear HKP hA hB
          go_enter Tryz.func48, Tryz.ntmps48
          go_wp2_with fail
          go_region_held3 (fun w' => w'.cell? ⟨w.heap.size, 0, none⟩ = some (.map (some r)) ∧ w'.cell? ⟨w.heap.size + 1, 4, none⟩ = some (.slice ad t.ks.length cap)) (exact KS.out _ _ (by first | assumption | exact Kp.drew (by assumption))) (first | (go_at_call 59; have hs0 := ‹Sx _›; refine (KB.out _ _ (by first | assumption | exact Kp.drew (by assumption))).mono ?_; rintro e wb ⟨Tb, zb, lb, rfl, sb, VB, mb, kb⟩) | (go_at_call 59; refine (KA.out _ _ (by first | assumption | exact Kp.drew (by assumption))).mono ?_; rintro e wa ⟨Ta, za, la, rfl, sa, VA, ma, ka⟩))
          all_goals go_wp2
          all_goals go_ret
          all_goals exact HF.out (.iface Ta za) (.iface Tb zb) la lb _ h01.out.1 h01.out.2 VA mb VB kb
    · rw [h]
      exact (shLeaf10 (some r) t.it t.ut t.tx ad t.ks.length cap w).mono fun e w' hw => fin _ e (by simp [VS, h]) w' hw
    · rw [h]
      have b2 : Below w.heap.size w ((w.alloc (.cells #[.map (some r)] 85)).alloc (.cells #[.int .i64 11, .int .i64 t.it, .int .u64 t.ut, .string t.tx, .slice ad t.ks.length cap] 25)) := ((Below.refl _ w).alloc (Nat.le_refl _) _).alloc (by simp) _
      have HC := Lib.hid (pointer_sh r l 11 t.it t.ut t.tx ad t.ks.length cap _ (hm.below b2) (hb.below b2))
      have HF : Hid (∀ (b : Nat) (l' : List (Int × Nat)) (w' : World), (t.it, b) ∈ l' → ShT ((w.alloc (.cells #[.map (some r)] 85)).alloc (.cells #[.int .i64 11, .int .i64 t.it, .int .u64 t.ut, .string t.tx, .slice ad t.ks.length cap] 25)) w' r l l' → ∃ v' l'', Ending.returned (.iface 121 (.pointer (some ⟨b, 0, none⟩))) = .returned v' ∧ VS l'' (n + 1) v' t ∧ ShT w w' r l l'') := fun b l' w' hb ⟨a1, a2, a3, a4⟩ => ⟨_, l', rfl, by simp [VS, h]; exact hb, a1, a2, a3, grown_trans (grown_below b2) a4⟩
      clear ih hk hall hp2 fin okp hok hps h
      go_enter Tryz.func48, Tryz.ntmps48
      go_wp2_with fail
      refine HC.out.mono ?_
      rintro e w2 ⟨b, l2, rfl, hbm, sh1, sh2, sh3, sh4⟩
      go_wp2
      go_ret
      exact HF.out b l2 _ hbm ⟨sh1, sh2, sh3, sh4⟩
    · rw [h]
      exact (shLeaf12 (some r) t.it t.ut t.tx ad t.ks.length cap w).mono fun e w' hw => fin _ e (by simp [VS, h]) w' hw
    · rw [h]
      exact (shLeaf13 (some r) t.it t.ut t.tx ad t.ks.length cap w).mono fun e w' hw => fin _ e (by simp [VS, h]) w' hw
end Go.Proofs.YtgijdiplhcoojaaGreatDoor.Dt
