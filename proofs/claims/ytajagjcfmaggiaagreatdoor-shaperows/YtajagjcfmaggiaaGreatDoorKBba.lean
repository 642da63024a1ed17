/- A pattern's tree as it lies in memory, and what of it stays when new memory is made; each theorem names its conditions. -/
import Derived.Test.YtajagjcfmaggiaaGreatDoorKBai
namespace Go.Proofs.YtajagjcfmaggiaaGreatDoor
open Go.RowKit

/-- The pattern t lies in w behind the three cells cs. -/
def RepW (w : World) : (n : Nat) → List Value → Wt n → Prop
  | 0, _, _ => False
  | n + 1, cs, t => ∃ (ad : Option Addr) (cap : Nat), cs = [.int .i64 t.op, .int .i64 t.nm, .slice ad t.ks.length cap] ∧ t.ks.length ≤ cap ∧ cap ≤ maxLen ∧
      (t.ks = [] ∨ ∃ g o, ad = some ⟨g, o, none⟩ ∧ ∀ (j : Nat) (t' : Wt n), t.ks[j]? = some t' → ∃ v0 v1 v2, w.cell? ⟨g, o + j * 3, none⟩ = some v0 ∧ w.cell? ⟨g, o + j * 3 + 1, none⟩ = some v1 ∧ w.cell? ⟨g, o + j * 3 + 2, none⟩ = some v2 ∧ RepW w n [v0, v1, v2] t')

theorem RepW.below {w w' : World} (hb : Below w.heap.size w w') : ∀ (n : Nat) (cs : List Value) (t : Wt n), RepW w n cs t → RepW w' n cs t
  | 0, _, _, h => h
  | n + 1, cs, t, h => by
    obtain ⟨ad, cap, h1, h3, h4, h5⟩ := h
    refine ⟨ad, cap, h1, h3, h4, ?_⟩
    rcases h5 with h5 | ⟨g, o, h6, h7⟩
    · exact .inl h5
    · refine .inr ⟨g, o, h6, fun j t' hj => ?_⟩
      obtain ⟨v0, v1, v2, c0, c1, c2, r⟩ := h7 j t' hj
      have hg : g < w.heap.size := World.block_lt_of_cell? w _ c0
      exact ⟨v0, v1, v2, (hb.cell (p := ⟨g, _, none⟩) hg).trans c0, (hb.cell (p := ⟨g, _, none⟩) hg).trans c1, (hb.cell (p := ⟨g, _, none⟩) hg).trans c2, RepW.below hb n _ _ r⟩

/-- A pattern in a block of its own. -/
def P3 (w : World) (N : Nat) (v0 v1 v2 : Value) : Prop := w.heap[N]? = some (.cells #[v0, v1, v2] 40 (0, 0))
theorem P3.c {w : World} {N : Nat} {v0 v1 v2 : Value} (h : P3 w N v0 v1 v2) : w.cell? ⟨N, 0, none⟩ = some v0 ∧ w.cell? ⟨N, 1, none⟩ = some v1 ∧ w.cell? ⟨N, 2, none⟩ = some v2 := by
  unfold P3 at h; simp [World.cell?, h]
theorem P3.new (w : World) (v0 v1 v2 : Value) : P3 (w.alloc (.cells #[v0, v1, v2] 40)) w.heap.size v0 v1 v2 := by
  unfold P3; exact heap_alloc_new w _
theorem P3.lt {w : World} {N : Nat} {v0 v1 v2 : Value} (h : P3 w N v0 v1 v2) : N < w.heap.size := by
  unfold P3 at h; exact (Array.getElem?_eq_some_iff.1 h).1
theorem P3.below {w w' : World} {N : Nat} {v0 v1 v2 : Value} (h : P3 w N v0 v1 v2) (hb : Below w.heap.size w w') : P3 w' N v0 v1 v2 := by
  have := h.lt
  unfold P3 at h ⊢
  exact (hb.block N this).trans h
theorem repW_shape {w : World} {n : Nat} {v0 v1 v2 : Value} {t : Wt n} (h : RepW w n [v0, v1, v2] t) : ∃ (o m : Int) (ad : Option Addr) (len cap : Nat), v0 = .int .i64 o ∧ v1 = .int .i64 m ∧ v2 = .slice ad len cap := by
  match n, t, h with
  | n + 1, t, h =>
    obtain ⟨ad, cap, e, -, -, -⟩ := h
    simp only [List.cons.injEq, and_true] at e
    exact ⟨_, _, _, _, _, e⟩
end Go.Proofs.YtajagjcfmaggiaaGreatDoor
/- What the package's inner 'holds' answers at a pattern without parts; the conditions: the pattern is right, the value is of a kind from 0 to 13. -/
namespace Go.Proofs.YtajagjcfmaggiaaGreatDoor
open Go.RowKit

theorem Kd.sx {k : Int} {u : Value} (h : Kd k u) : Sx u := by
  rcases h with ⟨_, h⟩ | ⟨_, _, v, h, _⟩
  · exact .inl h
  · exact .inr ⟨_, _, h⟩
theorem Kd.nil_iff {k : Int} {u : Value} (h : Kd k u) (h0 : 0 ≤ k) (h1 : k ≤ 13) : (k = 0 ∧ u = .nilIface) ∨ (k ≠ 0 ∧ ∃ T z, u = .iface T z) := by
  rcases h with ⟨h2, h⟩ | ⟨h2, _, v, h, _⟩
  · exact .inl ⟨by omega, h⟩
  · exact .inr ⟨by omega, _, _, h⟩

set_option maxRecDepth 100000 in
set_option maxHeartbeats 1000000 in
theorem holds1 (m : Int) (ad : Option Addr) (len cap : Nat) (k : Int) (u : Value) (w : World) (hk : Kd k u) (h0 : 0 ≤ k) (h1 : k ≤ 13) :
    Calls Tryz.prog 45 #[.agg #[.int .i64 1, .int .i64 m, .slice ad len cap], u] w fun e w' => e = .returned (.bool (k != 0)) ∧ Below w.heap.size w w' := by
  rcases hk.nil_iff h0 h1 with ⟨rfl, rfl⟩ | ⟨hne, T, z, rfl⟩
  · clear hk h0 h1
    go_enter Tryz.func45, Tryz.ntmps45
    go_wp2
    go_ret
    exact ⟨rfl, below2 w _ _⟩
  · have e : (k != 0) = true := by simpa using hne
    rw [e]
    clear hk h0 h1 hne e
    go_enter Tryz.func45, Tryz.ntmps45
    go_wp2
    go_ret
    exact ⟨rfl, below2 w _ _⟩

theorem cell_of {w : World} {N T : Nat} {v : Value} (h : w.heap[N]? = some (.cells #[v] T (0, 0))) : w.cell? ⟨N, 0, none⟩ = some v := by simp [World.cell?, h]
/-- The two blocks that 'holds' begins with. -/
def Two (w : World) (o m : Int) (ad : Option Addr) (len cap : Nat) (u : Value) (w' : World) : Prop :=
  Below (w.heap.size + 2) ((w.alloc (.cells #[.int .i64 o, .int .i64 m, .slice ad len cap] 40)).alloc (.cells #[u] 20)) w'
theorem Two.drew {w : World} {o m : Int} {ad : Option Addr} {len cap : Nat} {u : Value} {w' : World} (h : Two w o m ad len cap u w') : Two w o m ad len cap u w'.drew := Below.drew h
theorem Two.c1 {w : World} {o m : Int} {ad : Option Addr} {len cap : Nat} {u : Value} {w' : World} (h : Two w o m ad len cap u w') : w'.cell? ⟨w.heap.size, 1, none⟩ = some (.int .i64 m) := by
  have := (((P3.new w (.int .i64 o) (.int .i64 m) (.slice ad len cap)).below (below1 _ (.cells #[u] 20)))).c.2.1
  rw [← this]; exact Below.cell h (p := ⟨w.heap.size, 1, none⟩) (by show w.heap.size < w.heap.size + 2; omega)
theorem Two.c2 {w : World} {o m : Int} {ad : Option Addr} {len cap : Nat} {u : Value} {w' : World} (h : Two w o m ad len cap u w') : w'.cell? ⟨w.heap.size, 2, none⟩ = some (.slice ad len cap) := by
  have := (((P3.new w (.int .i64 o) (.int .i64 m) (.slice ad len cap)).below (below1 _ (.cells #[u] 20)))).c.2.2
  rw [← this]; exact Below.cell h (p := ⟨w.heap.size, 2, none⟩) (by show w.heap.size < w.heap.size + 2; omega)
theorem Two.cu {w : World} {o m : Int} {ad : Option Addr} {len cap : Nat} {u : Value} {w' : World} (h : Two w o m ad len cap u w') : w'.cell? ⟨w.heap.size + 1, 0, none⟩ = some u := by
  have : ((w.alloc (.cells #[.int .i64 o, .int .i64 m, .slice ad len cap] 40)).alloc (.cells #[u] 20)).cell? ⟨w.heap.size + 1, 0, none⟩ = some u := by
    have := heap_alloc_new (w.alloc (.cells #[.int .i64 o, .int .i64 m, .slice ad len cap] 40)) (.cells #[u] 20)
    rw [World.size_alloc] at this
    exact cell_of this
  rw [← this]; exact Below.cell h (p := ⟨w.heap.size + 1, 0, none⟩) (by show w.heap.size + 1 < w.heap.size + 2; omega)
theorem Two.below {w : World} {o m : Int} {ad : Option Addr} {len cap : Nat} {u : Value} {w' : World} (h : Two w o m ad len cap u w') : Below w.heap.size w w' := (below2 w _ _).trans (Below.mono h (by omega))
theorem Two.step {w : World} {o m : Int} {ad : Option Addr} {len cap : Nat} {u : Value} {w1 w2 : World} (h : Two w o m ad len cap u w1) (hb : Below w1.heap.size w1 w2) : Two w o m ad len cap u w2 := by
  have := Below.size h
  simp at this
  exact Below.trans h (hb.mono (by omega))
theorem Two.start (w : World) (o m : Int) (ad : Option Addr) (len cap : Nat) (u : Value) : Two w o m ad len cap u ((w.alloc (.cells #[.int .i64 o, .int .i64 m, .slice ad len cap] 40)).alloc (.cells #[u] 20)) := Below.refl _ _

set_option maxRecDepth 100000 in
set_option maxHeartbeats 2000000 in
theorem holds3_nil (m : Int) (ad : Option Addr) (len cap : Nat) (k : Int) (w : World) (hk : Kd k .nilIface) :
    Calls Tryz.prog 45 #[.agg #[.int .i64 3, .int .i64 m, .slice ad len cap], .nilIface] w fun e w' => e = .returned (.bool (impl k m)) ∧ Below w.heap.size w w' := by
  obtain ⟨F, ⟨hmm, hcf⟩, hA⟩ := face_asks m
  have HI : Hid (∀ wx, Two w 3 m ad len cap .nilIface wx → Calls Tryz.prog 71 #[.int .i64 m] wx fun e w' => e = .returned (.agg #[.iface (qfc m) (.agg #[]), .int .u8 (mbits m)]) ∧ Two w 3 m ad len cap .nilIface w') := fun wx hx => (interfaceOf_any m wx).mono fun e w' ⟨a, b⟩ => ⟨a, hx.step b⟩
  have HA : Hid (∀ wx, Two w 3 m ad len cap .nilIface wx → Calls Tryz.prog F #[.agg #[], .nilIface] wx fun e w' => e = .returned (.bool (impl k m)) ∧ Two w 3 m ad len cap .nilIface w') := fun wx hx => (hA k .nilIface wx hk).mono fun e w' ⟨a, b⟩ => ⟨a, hx.step b⟩
  have hb0 := Two.start w 3 m ad len cap .nilIface
  have hfd := fld0
  have HS : Hid (∀ wx, Two w 3 m ad len cap .nilIface wx → wx.cell? ⟨w.heap.size, 1, none⟩ = some (.int .i64 m) ∧ wx.cell? ⟨w.heap.size + 1, 0, none⟩ = some .nilIface) := fun wx h => ⟨h.c1, h.cu⟩
  clear hA hk
  generalize qfc m = Q at hmm HI
  go_enter Tryz.func45, Tryz.ntmps45
  go_wp2_with fail
  go_region_held3 (fun w' => w'.cell? ⟨w.heap.size, 1, none⟩ = some (.int .i64 m) ∧ w'.cell? ⟨w.heap.size + 1, 0, none⟩ = some .nilIface) (exact HS.out _ (by first | assumption | exact Two.drew (by assumption))) (first | (go_at_call 71; refine (HI.out _ (by first | assumption | exact Two.drew (by assumption))).mono ?_; rintro e wa ⟨rfl, ba⟩) | (refine (HA.out _ (by first | assumption | exact Two.drew (by assumption))).mono ?_; rintro e wa ⟨rfl, ba⟩))
  all_goals go_wp2
  all_goals go_ret
  all_goals exact ⟨rfl, Two.below (by first | assumption | exact Two.drew (by assumption))⟩

set_option maxRecDepth 100000 in
set_option maxHeartbeats 2000000 in
theorem holds3_val (m : Int) (ad : Option Addr) (len cap : Nat) (k : Int) (T : TypeId) (z : Value) (w : World) (hk : Kd k (.iface T z)) :
    Calls Tryz.prog 45 #[.agg #[.int .i64 3, .int .i64 m, .slice ad len cap], (.iface T z)] w fun e w' => e = .returned (.bool (impl k m)) ∧ Below w.heap.size w w' := by
  obtain ⟨F, ⟨hmm, hcf⟩, hA⟩ := face_asks m
  have HI : Hid (∀ wx, Two w 3 m ad len cap (.iface T z) wx → Calls Tryz.prog 71 #[.int .i64 m] wx fun e w' => e = .returned (.agg #[.iface (qfc m) (.agg #[]), .int .u8 (mbits m)]) ∧ Two w 3 m ad len cap (.iface T z) w') := fun wx hx => (interfaceOf_any m wx).mono fun e w' ⟨a, b⟩ => ⟨a, hx.step b⟩
  have HA : Hid (∀ wx, Two w 3 m ad len cap (.iface T z) wx → Calls Tryz.prog F #[.agg #[], (.iface T z)] wx fun e w' => e = .returned (.bool (impl k m)) ∧ Two w 3 m ad len cap (.iface T z) w') := fun wx hx => (hA k (.iface T z) wx hk).mono fun e w' ⟨a, b⟩ => ⟨a, hx.step b⟩
  have hb0 := Two.start w 3 m ad len cap (.iface T z)
  have hfd := fld0
  have HS : Hid (∀ wx, Two w 3 m ad len cap (.iface T z) wx → wx.cell? ⟨w.heap.size, 1, none⟩ = some (.int .i64 m) ∧ wx.cell? ⟨w.heap.size + 1, 0, none⟩ = some (.iface T z)) := fun wx h => ⟨h.c1, h.cu⟩
  clear hA hk
  generalize qfc m = Q at hmm HI
  go_enter Tryz.func45, Tryz.ntmps45
  go_wp2_with fail
  go_region_held3 (fun w' => w'.cell? ⟨w.heap.size, 1, none⟩ = some (.int .i64 m) ∧ w'.cell? ⟨w.heap.size + 1, 0, none⟩ = some (.iface T z)) (exact HS.out _ (by first | assumption | exact Two.drew (by assumption))) (first | (go_at_call 71; refine (HI.out _ (by first | assumption | exact Two.drew (by assumption))).mono ?_; rintro e wa ⟨rfl, ba⟩) | (refine (HA.out _ (by first | assumption | exact Two.drew (by assumption))).mono ?_; rintro e wa ⟨rfl, ba⟩))
  all_goals go_wp2
  all_goals go_ret
  all_goals exact ⟨rfl, Two.below (by first | assumption | exact Two.drew (by assumption))⟩

theorem holds3 (m : Int) (ad : Option Addr) (len cap : Nat) (k : Int) (u : Value) (w : World) (hk : Kd k u) :
    Calls Tryz.prog 45 #[.agg #[.int .i64 3, .int .i64 m, .slice ad len cap], u] w fun e w' => e = .returned (.bool (impl k m)) ∧ Below w.heap.size w w' := by
  rcases hk.sx with rfl | ⟨T, z, rfl⟩
  · exact holds3_nil m ad len cap k w hk
  · exact holds3_val m ad len cap k T z w hk

set_option maxRecDepth 100000 in
set_option maxHeartbeats 2000000 in
theorem holds2n_nil (m : Int) (hm : (m == 0) = false) (ad : Option Addr) (len cap : Nat) (k : Int) (w : World) (hk : Kd k .nilIface) :
    Calls Tryz.prog 45 #[.agg #[.int .i64 2, .int .i64 m, .slice ad len cap], .nilIface] w fun e w' => e = .returned (.bool (tkd m k)) ∧ Below w.heap.size w w' := by
  obtain ⟨F, ⟨hmm, hcf⟩, hA⟩ := type_asks m
  have HI : Hid (∀ wx, Two w 2 m ad len cap .nilIface wx → Calls Tryz.prog 70 #[.int .i64 m] wx fun e w' => e = .returned (.iface (qty m) (.agg #[])) ∧ Two w 2 m ad len cap .nilIface w') := fun wx hx => (typeOf_any m wx).mono fun e w' ⟨a, b⟩ => ⟨a, b ▸ hx⟩
  have HA : Hid (∀ wx, Two w 2 m ad len cap .nilIface wx → Calls Tryz.prog F #[.agg #[], .nilIface] wx fun e w' => e = .returned (.bool (tkd m k)) ∧ Two w 2 m ad len cap .nilIface w') := fun wx hx => (hA k .nilIface wx hk).mono fun e w' ⟨a, b⟩ => ⟨a, hx.step b⟩
  have hb0 := Two.start w 2 m ad len cap .nilIface
  have HS : Hid (∀ wx, Two w 2 m ad len cap .nilIface wx → wx.cell? ⟨w.heap.size, 1, none⟩ = some (.int .i64 m) ∧ wx.cell? ⟨w.heap.size + 1, 0, none⟩ = some .nilIface) := fun wx h => ⟨h.c1, h.cu⟩
  clear hA hk
  generalize qty m = Q at hmm HI
  go_enter Tryz.func45, Tryz.ntmps45
  go_wp2_with fail
  go_region_with (first | (go_at_call 70; refine (HI.out _ (by first | assumption | exact Two.drew (by assumption))).mono ?_; rintro e wa ⟨rfl, ba⟩; obtain ⟨c1, cu⟩ := HS.out _ ba) | (refine (HA.out _ (by first | assumption | exact Two.drew (by assumption))).mono ?_; rintro e wa ⟨rfl, ba⟩))
  all_goals go_wp2
  all_goals go_ret
  all_goals exact ⟨rfl, Two.below (by first | assumption | exact Two.drew (by assumption))⟩
set_option maxRecDepth 100000 in
set_option maxHeartbeats 2000000 in
theorem holds2n_val (m : Int) (hm : (m == 0) = false) (ad : Option Addr) (len cap : Nat) (k : Int) (T : TypeId) (z : Value) (w : World) (hk : Kd k (.iface T z)) :
    Calls Tryz.prog 45 #[.agg #[.int .i64 2, .int .i64 m, .slice ad len cap], (.iface T z)] w fun e w' => e = .returned (.bool (tkd m k)) ∧ Below w.heap.size w w' := by
  obtain ⟨F, ⟨hmm, hcf⟩, hA⟩ := type_asks m
  have HI : Hid (∀ wx, Two w 2 m ad len cap (.iface T z) wx → Calls Tryz.prog 70 #[.int .i64 m] wx fun e w' => e = .returned (.iface (qty m) (.agg #[])) ∧ Two w 2 m ad len cap (.iface T z) w') := fun wx hx => (typeOf_any m wx).mono fun e w' ⟨a, b⟩ => ⟨a, b ▸ hx⟩
  have HA : Hid (∀ wx, Two w 2 m ad len cap (.iface T z) wx → Calls Tryz.prog F #[.agg #[], (.iface T z)] wx fun e w' => e = .returned (.bool (tkd m k)) ∧ Two w 2 m ad len cap (.iface T z) w') := fun wx hx => (hA k (.iface T z) wx hk).mono fun e w' ⟨a, b⟩ => ⟨a, hx.step b⟩
  have hb0 := Two.start w 2 m ad len cap (.iface T z)
  have HS : Hid (∀ wx, Two w 2 m ad len cap (.iface T z) wx → wx.cell? ⟨w.heap.size, 1, none⟩ = some (.int .i64 m) ∧ wx.cell? ⟨w.heap.size + 1, 0, none⟩ = some (.iface T z)) := fun wx h => ⟨h.c1, h.cu⟩
  clear hA hk
  generalize qty m = Q at hmm HI
  go_enter Tryz.func45, Tryz.ntmps45
  go_wp2_with fail
  go_region_with (first | (go_at_call 70; refine (HI.out _ (by first | assumption | exact Two.drew (by assumption))).mono ?_; rintro e wa ⟨rfl, ba⟩; obtain ⟨c1, cu⟩ := HS.out _ ba) | (refine (HA.out _ (by first | assumption | exact Two.drew (by assumption))).mono ?_; rintro e wa ⟨rfl, ba⟩))
  all_goals go_wp2
  all_goals go_ret
  all_goals exact ⟨rfl, Two.below (by first | assumption | exact Two.drew (by assumption))⟩
theorem holds2n (m : Int) (hm : (m == 0) = false) (ad : Option Addr) (len cap : Nat) (k : Int) (u : Value) (w : World) (hk : Kd k u) :
    Calls Tryz.prog 45 #[.agg #[.int .i64 2, .int .i64 m, .slice ad len cap], u] w fun e w' => e = .returned (.bool (tkd m k)) ∧ Below w.heap.size w w' := by
  rcases hk.sx with rfl | ⟨T, z, rfl⟩
  · exact holds2n_nil m hm ad len cap k w hk
  · exact holds2n_val m hm ad len cap k T z w hk

set_option maxRecDepth 100000 in
set_option maxHeartbeats 2000000 in
theorem holds20_val (ad : Option Addr) (len cap : Nat) (k : Int) (T : TypeId) (z : Value) (w : World) (hk : Kd k (.iface T z)) :
    Calls Tryz.prog 45 #[.agg #[.int .i64 2, .int .i64 0, .slice ad len cap], (.iface T z)] w fun e w' => e = .returned (.bool (tkd 0 k)) ∧ Below w.heap.size w w' := by
  obtain ⟨F, ⟨hmm, hcf⟩, hA⟩ := type_asks 0
  have HI : Hid (∀ wx, Two w 2 0 ad len cap (.iface T z) wx → Calls Tryz.prog 70 #[.int .i64 0] wx fun e w' => e = .returned (.iface (qty 0) (.agg #[])) ∧ Two w 2 0 ad len cap (.iface T z) w') := fun wx hx => (typeOf_any 0 wx).mono fun e w' ⟨a, b⟩ => ⟨a, b ▸ hx⟩
  have HA : Hid (∀ wx, Two w 2 0 ad len cap (.iface T z) wx → Calls Tryz.prog F #[.agg #[], (.iface T z)] wx fun e w' => e = .returned (.bool (tkd 0 k)) ∧ Two w 2 0 ad len cap (.iface T z) w') := fun wx hx => (hA k (.iface T z) wx hk).mono fun e w' ⟨a, b⟩ => ⟨a, hx.step b⟩
  have hb0 := Two.start w 2 0 ad len cap (.iface T z)
  have HS : Hid (∀ wx, Two w 2 0 ad len cap (.iface T z) wx → wx.cell? ⟨w.heap.size, 1, none⟩ = some (.int .i64 0) ∧ wx.cell? ⟨w.heap.size + 1, 0, none⟩ = some (.iface T z)) := fun wx h => ⟨h.c1, h.cu⟩
  clear hA hk
  generalize qty 0 = Q at hmm HI
  go_enter Tryz.func45, Tryz.ntmps45
  go_wp2_with fail
  go_region_with (first | (go_at_call 70; refine (HI.out _ (by first | assumption | exact Two.drew (by assumption))).mono ?_; rintro e wa ⟨rfl, ba⟩; obtain ⟨c1, cu⟩ := HS.out _ ba) | (refine (HA.out _ (by first | assumption | exact Two.drew (by assumption))).mono ?_; rintro e wa ⟨rfl, ba⟩))
  all_goals go_wp2
  all_goals go_ret
  all_goals exact ⟨rfl, Two.below (by first | assumption | exact Two.drew (by assumption))⟩
end Go.Proofs.YtajagjcfmaggiaaGreatDoor
/- What the package's inner 'holds' answers at the pattern of one kind; the conditions: a kind, a value of a kind. -/
namespace Go.Proofs.YtajagjcfmaggiaaGreatDoor
open Go.RowKit

theorem below_dn {B : Nat} {a w : World} (h : Below B a w) (n : Nat) : Below B a (w.drewN n) := ⟨h.os, h.tape, h.output, h.size, h.block⟩

set_option maxRecDepth 100000 in
set_option maxHeartbeats 2000000 in
theorem holds20_nil (ad : Option Addr) (len cap : Nat) (w : World) :
    Calls Tryz.prog 45 #[.agg #[.int .i64 2, .int .i64 0, .slice ad len cap], .nilIface] w fun e w' => e = .returned (.bool true) ∧ Below w.heap.size w w' := by
  go_enter Tryz.func45, Tryz.ntmps45
  go_wp2_with fail
  go_quiet (fail)
  go_wp2
  go_ret
  exact ⟨rfl, below_dn (below2 w _ _) _⟩

theorem holds2 (m : Int) (h0 : 0 ≤ m) (h1 : m ≤ 13) (ad : Option Addr) (len cap : Nat) (k : Int) (u : Value) (w : World) (hk : Kd k u) (k0 : 0 ≤ k) (k1 : k ≤ 13) :
    Calls Tryz.prog 45 #[.agg #[.int .i64 2, .int .i64 m, .slice ad len cap], u] w fun e w' => e = .returned (.bool (k == m || (m == 11 && k == 12))) ∧ Below w.heap.size w w' := by
  by_cases hm : m = 0
  · subst hm
    rcases hk.nil_iff k0 k1 with ⟨rfl, rfl⟩ | ⟨hne, T, z, rfl⟩
    · exact holds20_nil ad len cap w
    · have e : (k == 0 || ((0 : Int) == 11 && k == 12)) = tkd 0 k := by simp [tkd, hne]
      rw [e]
      exact holds20_val ad len cap k T z w hk
  · have e : (k == m || (m == 11 && k == 12)) = tkd m k := by
      unfold tkd
      rw [decide_eq_true (by omega), Bool.true_and]
    rw [e]
    exact holds2n m (by simpa using hm) ad len cap k u w hk
end Go.Proofs.YtajagjcfmaggiaaGreatDoor
/- What the package's inner 'holds' answers at any right pattern: whether it holds of the value's kind; the conditions: the pattern's tree lies in memory and is right, the value is of a kind from 0 to 13. -/
namespace Go.Proofs.YtajagjcfmaggiaaGreatDoor
open Go.RowKit

/-- What 'holds' is to answer of patterns of depth n. -/
def HoldsN (n : Nat) : Prop := ∀ (t : Wt n) (v0 v1 v2 u : Value) (k : Int) (w : World), RepW w n [v0, v1, v2] t → wgt n t = true → Kd k u → 0 ≤ k → k ≤ 13 →
    Calls Tryz.prog 45 #[.agg #[v0, v1, v2], u] w fun e w' => e = .returned (.bool (evk n t k)) ∧ Below w.heap.size w w'

/-- The place of the first that p says yes of. -/
def fst {T : Type} (p : T → Bool) : List T → Nat → Int
  | [], _ => -1
  | x :: l, j => if p x = true then j else fst p l (j + 1)
theorem fst_bd {T : Type} (p : T → Bool) : ∀ (l : List T) (j : Nat), -1 ≤ fst p l j ∧ (0 ≤ fst p l j ↔ l.any p = true) ∧ fst p l j ≤ j + l.length
  | [], j => by simp [fst]
  | x :: l, j => by
    have := fst_bd p l (j + 1)
    simp only [fst, List.any_cons, List.length_cons]
    by_cases h : p x = true
    · rw [if_pos h, h]; simp; omega
    · rw [if_neg h]
      have h' : p x = false := by simpa using h
      rw [h', Bool.false_or]
      exact ⟨this.1, this.2.1, by omega⟩
theorem fst_cons {T : Type} (p : T → Bool) (x : T) (l : List T) (j : Nat) : fst p (x :: l) j = if p x = true then (j : Int) else fst p l (j + 1) := rfl

set_option maxRecDepth 100000 in
set_option maxHeartbeats 1000000 in
theorem clos1 (n : Nat) (hn : HoldsN n) (t : Wt n) (v0 v1 v2 u : Value) (k : Int) (B : Nat) (w : World) (hr : RepW w n [v0, v1, v2] t) (hg : wgt n t = true) (hk : Kd k u) (k0 : 0 ≤ k) (k1 : k ≤ 13) (hu : w.cell? ⟨B, 0, none⟩ = some u) :
    Calls Tryz.prog 73 #[.agg #[v0, v1, v2], .pointer (some ⟨B, 0, none⟩)] w fun e w' => e = .returned (.bool (evk n t k)) ∧ Below w.heap.size w w' := by
  have hB : B < w.heap.size := World.block_lt_of_cell? w _ hu
  obtain ⟨o, m, ad, len, cap, rfl, rfl, rfl⟩ := repW_shape hr
  have H : Hid (∀ wx, Below w.heap.size w wx → Calls Tryz.prog 45 #[.agg #[.int .i64 o, .int .i64 m, .slice ad len cap], u] wx fun e w' => e = .returned (.bool (evk n t k)) ∧ Below w.heap.size w w') := fun wx hx => since (hn t _ _ _ u k wx (RepW.below hx n _ _ hr) hg hk k0 k1) hx
  have hc : ∀ ob : Obj, (w.alloc ob).cell? ⟨B, 0, none⟩ = some u := fun ob => (Below.cell (below1 w ob) (p := ⟨B, 0, none⟩) hB).trans hu
  have b1 := below1 w (.cells #[.int .i64 o, .int .i64 m, .slice ad len cap] 40)
  clear hn hr hg hk k0 k1 hu
  go_enter Tryz.func73, Tryz.ntmps73
  go_wp2_with fail
  refine (H.out _ b1).mono ?_
  rintro e w1 ⟨rfl, b2⟩
  go_wp2
  go_ret
  exact ⟨rfl, b2⟩

set_option maxRecDepth 100000 in
set_option maxHeartbeats 1000000 in
theorem index1 (n : Nat) (hn : HoldsN n) (ts : List (Wt n)) (ad : Option Addr) (cap : Nat) (u : Value) (k : Int) (B : Nat) (w : World) (hcap : ts.length ≤ cap) (hmax : cap ≤ maxLen)
    (hr : ts = [] ∨ ∃ g o, ad = some ⟨g, o, none⟩ ∧ ∀ (j : Nat) (t' : Wt n), ts[j]? = some t' → ∃ v0 v1 v2, w.cell? ⟨g, o + j * 3, none⟩ = some v0 ∧ w.cell? ⟨g, o + j * 3 + 1, none⟩ = some v1 ∧ w.cell? ⟨g, o + j * 3 + 2, none⟩ = some v2 ∧ RepW w n [v0, v1, v2] t')
    (hg : ∀ t ∈ ts, wgt n t = true) (hk : Kd k u) (k0 : 0 ≤ k) (k1 : k ≤ 13) (hu : w.cell? ⟨B, 0, none⟩ = some u) :
    Calls Tryz.prog 85 #[.slice ad ts.length cap, .func (.func 73) #[] #[.pointer (some ⟨B, 0, none⟩)]] w fun e w' => e = .returned (.int .i64 (fst (fun x => evk n x k) ts 0)) ∧ Below w.heap.size w w' := by
  have hB : B < w.heap.size := World.block_lt_of_cell? w _ hu
  unfold maxLen at hmax
  have HC : Hid (∀ (t : Wt n) (v0 v1 v2 : Value) (wx : World), t ∈ ts → RepW w n [v0, v1, v2] t → Below w.heap.size w wx → Calls Tryz.prog 73 #[.agg #[v0, v1, v2], .pointer (some ⟨B, 0, none⟩)] wx fun e w' => e = .returned (.bool (evk n t k)) ∧ Below w.heap.size w w') := fun t v0 v1 v2 wx ht hx hb => since (clos1 n hn t v0 v1 v2 u k B wx (RepW.below hb n _ _ hx) (hg t ht) hk k0 k1 ((Below.cell hb (p := ⟨B, 0, none⟩) hB).trans hu)) hb
  have HK := Lib.hid hr
  clear hn hg hk k0 k1 hu hr
  generalize hpp : (fun x : Wt n => evk n x k) = pp
  have HP := Lib.hid hpp
  clear hpp
  go_enter Tryz.func85, Tryz.ntmps85
  go_wp2_with fail
  go_loopw [8] (fun si wr => ∃ (j : Nat), si = .int .i64 j ∧ j ≤ ts.length ∧ fst pp (ts.drop j) j = fst pp ts 0 ∧ Below w.heap.size w wr) (fun si _ => ts.length - (intOf si).toNat)
  case atStart => exact ⟨0, rfl, Nat.zero_le _, rfl, Below.refl _ _⟩
  case round =>
    obtain ⟨j, rfl, hj, hinv, hb⟩ := hrel
    have HV := Lib.hid hinv
    clear hinv
    by_cases hlt : j < ts.length
    · have hne : ts ≠ [] := by intro e; rw [e] at hlt; exact absurd hlt (Nat.not_lt_zero _)
      rcases HK.out with hk | ⟨g, o, hk1, hk2⟩
      · exact absurd hk hne
      subst hk1
      obtain ⟨v0, v1, v2, e0, e1, e2, rk⟩ := hk2 j _ (List.getElem?_eq_getElem hlt)
      have hgl : g < w.heap.size := World.block_lt_of_cell? w _ e0
      have x0 := (hb.cell (p := ⟨g, o + j * 3, none⟩) hgl).trans e0
      have x1 := (hb.cell (p := ⟨g, o + j * 3 + 1, none⟩) hgl).trans e1
      have x2 := (hb.cell (p := ⟨g, o + j * 3 + 2, none⟩) hgl).trans e2
      clear e0 e1 e2 hk2 HK
      go_wp2_with fail
      refine (HC.out ts[j] v0 v1 v2 wr (List.getElem_mem hlt) rk hb).mono ?_
      rintro e w1 ⟨he, b1⟩
      have hv := HV.out
      rw [drop_atW ts j hlt, fst_cons] at hv
      clear x0 x1 x2 rk HV
      obtain ⟨bb, hbb⟩ : ∃ bb : Bool, (evk n ts[j] k) = bb := ⟨_, rfl⟩
      have hpb : pp ts[j] = bb := by rw [← HP.out]; exact hbb
      rw [hbb] at he
      clear hbb
      subst he
      cases bb with
      | true =>
        rw [if_pos hpb] at hv
        have HW := Lib.hid hv
        clear hv hpb
        go_wp2_with fail
        go_ret
        exact ⟨by rw [← HW.out]; rfl, b1⟩
      | false =>
        rw [if_neg (by rw [hpb]; decide)] at hv
        have HW := Lib.hid hv
        clear hv hpb
        go_wp2_with fail
        exact ⟨⟨j + 1, by go_num, by omega, HW.out, b1⟩, by simp [intOf]; omega⟩
    · have hje : j = ts.length := by omega
      have hv := HV.out
      rw [hje, List.drop_length] at hv
      have HW := Lib.hid hv
      clear hv HV
      go_wp2_with fail
      go_ret
      exact ⟨by rw [← HW.out]; rfl, hb⟩

set_option maxRecDepth 100000 in
set_option maxHeartbeats 1000000 in
theorem contains1 (n : Nat) (hn : HoldsN n) (ts : List (Wt n)) (ad : Option Addr) (cap : Nat) (u : Value) (k : Int) (B : Nat) (w : World) (hcap : ts.length ≤ cap) (hmax : cap ≤ maxLen)
    (hr : ts = [] ∨ ∃ g o, ad = some ⟨g, o, none⟩ ∧ ∀ (j : Nat) (t' : Wt n), ts[j]? = some t' → ∃ v0 v1 v2, w.cell? ⟨g, o + j * 3, none⟩ = some v0 ∧ w.cell? ⟨g, o + j * 3 + 1, none⟩ = some v1 ∧ w.cell? ⟨g, o + j * 3 + 2, none⟩ = some v2 ∧ RepW w n [v0, v1, v2] t')
    (hg : ∀ t ∈ ts, wgt n t = true) (hk : Kd k u) (k0 : 0 ≤ k) (k1 : k ≤ 13) (hu : w.cell? ⟨B, 0, none⟩ = some u) :
    Calls Tryz.prog 72 #[.slice ad ts.length cap, .func (.func 73) #[] #[.pointer (some ⟨B, 0, none⟩)]] w fun e w' => e = .returned (.bool (ts.any fun x => evk n x k)) ∧ Below w.heap.size w w' := by
  have H := Lib.hid (index1 n hn ts ad cap u k B w hcap hmax hr hg hk k0 k1 hu)
  clear hn hg hk k0 k1 hu hr hcap hmax
  generalize hpp : (fun x : Wt n => evk n x k) = pp at H
  obtain ⟨f1, f2, f3⟩ := fst_bd pp ts 0
  have ez : ts.any pp = decide (0 ≤ fst pp ts 0) := by
    by_cases h : ts.any pp = true
    · rw [h, decide_eq_true (f2.2 h)]
    · have h' : ts.any pp = false := by simpa using h
      rw [h', decide_eq_false (fun h2 => h (f2.1 h2))]
  rw [ez]
  clear hpp ez f1 f2 f3
  generalize fst pp ts 0 = z at H
  go_enter Tryz.func72, Tryz.ntmps72
  go_wp2_with fail
  refine H.out.mono ?_
  rintro e w1 ⟨rfl, b1⟩
  go_wp2
  all_goals go_ret
  all_goals exact ⟨ret_b (by simp), b1⟩

set_option maxRecDepth 100000 in
set_option maxHeartbeats 1000000 in
theorem clos2 (n : Nat) (hn : HoldsN n) (t : Wt n) (v0 v1 v2 u : Value) (k : Int) (B : Nat) (w : World) (hr : RepW w n [v0, v1, v2] t) (hg : wgt n t = true) (hk : Kd k u) (k0 : 0 ≤ k) (k1 : k ≤ 13) (hu : w.cell? ⟨B, 0, none⟩ = some u) :
    Calls Tryz.prog 74 #[.agg #[v0, v1, v2], .pointer (some ⟨B, 0, none⟩)] w fun e w' => e = .returned (.bool (!(evk n t k))) ∧ Below w.heap.size w w' := by
  have hB : B < w.heap.size := World.block_lt_of_cell? w _ hu
  obtain ⟨o, m, ad, len, cap, rfl, rfl, rfl⟩ := repW_shape hr
  have H : Hid (∀ wx, Below w.heap.size w wx → Calls Tryz.prog 45 #[.agg #[.int .i64 o, .int .i64 m, .slice ad len cap], u] wx fun e w' => e = .returned (.bool (evk n t k)) ∧ Below w.heap.size w w') := fun wx hx => since (hn t _ _ _ u k wx (RepW.below hx n _ _ hr) hg hk k0 k1) hx
  have hc : ∀ ob : Obj, (w.alloc ob).cell? ⟨B, 0, none⟩ = some u := fun ob => (Below.cell (below1 w ob) (p := ⟨B, 0, none⟩) hB).trans hu
  have b1 := below1 w (.cells #[.int .i64 o, .int .i64 m, .slice ad len cap] 40)
  clear hn hr hg hk k0 k1 hu
  go_enter Tryz.func74, Tryz.ntmps74
  go_wp2_with fail
  refine (H.out _ b1).mono ?_
  rintro e w1 ⟨rfl, b2⟩
  go_wp2
  go_ret
  exact ⟨rfl, b2⟩

set_option maxRecDepth 100000 in
set_option maxHeartbeats 1000000 in
theorem index2 (n : Nat) (hn : HoldsN n) (ts : List (Wt n)) (ad : Option Addr) (cap : Nat) (u : Value) (k : Int) (B : Nat) (w : World) (hcap : ts.length ≤ cap) (hmax : cap ≤ maxLen)
    (hr : ts = [] ∨ ∃ g o, ad = some ⟨g, o, none⟩ ∧ ∀ (j : Nat) (t' : Wt n), ts[j]? = some t' → ∃ v0 v1 v2, w.cell? ⟨g, o + j * 3, none⟩ = some v0 ∧ w.cell? ⟨g, o + j * 3 + 1, none⟩ = some v1 ∧ w.cell? ⟨g, o + j * 3 + 2, none⟩ = some v2 ∧ RepW w n [v0, v1, v2] t')
    (hg : ∀ t ∈ ts, wgt n t = true) (hk : Kd k u) (k0 : 0 ≤ k) (k1 : k ≤ 13) (hu : w.cell? ⟨B, 0, none⟩ = some u) :
    Calls Tryz.prog 85 #[.slice ad ts.length cap, .func (.func 74) #[] #[.pointer (some ⟨B, 0, none⟩)]] w fun e w' => e = .returned (.int .i64 (fst (fun x => !(evk n x k)) ts 0)) ∧ Below w.heap.size w w' := by
  have hB : B < w.heap.size := World.block_lt_of_cell? w _ hu
  unfold maxLen at hmax
  have HC : Hid (∀ (t : Wt n) (v0 v1 v2 : Value) (wx : World), t ∈ ts → RepW w n [v0, v1, v2] t → Below w.heap.size w wx → Calls Tryz.prog 74 #[.agg #[v0, v1, v2], .pointer (some ⟨B, 0, none⟩)] wx fun e w' => e = .returned (.bool (!(evk n t k))) ∧ Below w.heap.size w w') := fun t v0 v1 v2 wx ht hx hb => since (clos2 n hn t v0 v1 v2 u k B wx (RepW.below hb n _ _ hx) (hg t ht) hk k0 k1 ((Below.cell hb (p := ⟨B, 0, none⟩) hB).trans hu)) hb
  have HK := Lib.hid hr
  clear hn hg hk k0 k1 hu hr
  generalize hpp : (fun x : Wt n => !(evk n x k)) = pp
  have HP := Lib.hid hpp
  clear hpp
  go_enter Tryz.func85, Tryz.ntmps85
  go_wp2_with fail
  go_loopw [8] (fun si wr => ∃ (j : Nat), si = .int .i64 j ∧ j ≤ ts.length ∧ fst pp (ts.drop j) j = fst pp ts 0 ∧ Below w.heap.size w wr) (fun si _ => ts.length - (intOf si).toNat)
  case atStart => exact ⟨0, rfl, Nat.zero_le _, rfl, Below.refl _ _⟩
  case round =>
    obtain ⟨j, rfl, hj, hinv, hb⟩ := hrel
    have HV := Lib.hid hinv
    clear hinv
    by_cases hlt : j < ts.length
    · have hne : ts ≠ [] := by intro e; rw [e] at hlt; exact absurd hlt (Nat.not_lt_zero _)
      rcases HK.out with hk | ⟨g, o, hk1, hk2⟩
      · exact absurd hk hne
      subst hk1
      obtain ⟨v0, v1, v2, e0, e1, e2, rk⟩ := hk2 j _ (List.getElem?_eq_getElem hlt)
      have hgl : g < w.heap.size := World.block_lt_of_cell? w _ e0
      have x0 := (hb.cell (p := ⟨g, o + j * 3, none⟩) hgl).trans e0
      have x1 := (hb.cell (p := ⟨g, o + j * 3 + 1, none⟩) hgl).trans e1
      have x2 := (hb.cell (p := ⟨g, o + j * 3 + 2, none⟩) hgl).trans e2
      clear e0 e1 e2 hk2 HK
      go_wp2_with fail
      refine (HC.out ts[j] v0 v1 v2 wr (List.getElem_mem hlt) rk hb).mono ?_
      rintro e w1 ⟨he, b1⟩
      have hv := HV.out
      rw [drop_atW ts j hlt, fst_cons] at hv
      clear x0 x1 x2 rk HV
      obtain ⟨bb, hbb⟩ : ∃ bb : Bool, (!(evk n ts[j] k)) = bb := ⟨_, rfl⟩
      have hpb : pp ts[j] = bb := by rw [← HP.out]; exact hbb
      rw [hbb] at he
      clear hbb
      subst he
      cases bb with
      | true =>
        rw [if_pos hpb] at hv
        have HW := Lib.hid hv
        clear hv hpb
        go_wp2_with fail
        go_ret
        exact ⟨by rw [← HW.out]; rfl, b1⟩
      | false =>
        rw [if_neg (by rw [hpb]; decide)] at hv
        have HW := Lib.hid hv
        clear hv hpb
        go_wp2_with fail
        exact ⟨⟨j + 1, by go_num, by omega, HW.out, b1⟩, by simp [intOf]; omega⟩
    · have hje : j = ts.length := by omega
      have hv := HV.out
      rw [hje, List.drop_length] at hv
      have HW := Lib.hid hv
      clear hv HV
      go_wp2_with fail
      go_ret
      exact ⟨by rw [← HW.out]; rfl, hb⟩

set_option maxRecDepth 100000 in
set_option maxHeartbeats 1000000 in
theorem contains2 (n : Nat) (hn : HoldsN n) (ts : List (Wt n)) (ad : Option Addr) (cap : Nat) (u : Value) (k : Int) (B : Nat) (w : World) (hcap : ts.length ≤ cap) (hmax : cap ≤ maxLen)
    (hr : ts = [] ∨ ∃ g o, ad = some ⟨g, o, none⟩ ∧ ∀ (j : Nat) (t' : Wt n), ts[j]? = some t' → ∃ v0 v1 v2, w.cell? ⟨g, o + j * 3, none⟩ = some v0 ∧ w.cell? ⟨g, o + j * 3 + 1, none⟩ = some v1 ∧ w.cell? ⟨g, o + j * 3 + 2, none⟩ = some v2 ∧ RepW w n [v0, v1, v2] t')
    (hg : ∀ t ∈ ts, wgt n t = true) (hk : Kd k u) (k0 : 0 ≤ k) (k1 : k ≤ 13) (hu : w.cell? ⟨B, 0, none⟩ = some u) :
    Calls Tryz.prog 72 #[.slice ad ts.length cap, .func (.func 74) #[] #[.pointer (some ⟨B, 0, none⟩)]] w fun e w' => e = .returned (.bool (ts.any fun x => !(evk n x k))) ∧ Below w.heap.size w w' := by
  have H := Lib.hid (index2 n hn ts ad cap u k B w hcap hmax hr hg hk k0 k1 hu)
  clear hn hg hk k0 k1 hu hr hcap hmax
  generalize hpp : (fun x : Wt n => !(evk n x k)) = pp at H
  obtain ⟨f1, f2, f3⟩ := fst_bd pp ts 0
  have ez : ts.any pp = decide (0 ≤ fst pp ts 0) := by
    by_cases h : ts.any pp = true
    · rw [h, decide_eq_true (f2.2 h)]
    · have h' : ts.any pp = false := by simpa using h
      rw [h', decide_eq_false (fun h2 => h (f2.1 h2))]
  rw [ez]
  clear hpp ez f1 f2 f3
  generalize fst pp ts 0 = z at H
  go_enter Tryz.func72, Tryz.ntmps72
  go_wp2_with fail
  refine H.out.mono ?_
  rintro e w1 ⟨rfl, b1⟩
  go_wp2
  all_goals go_ret
  all_goals exact ⟨ret_b (by simp), b1⟩

set_option maxRecDepth 100000 in
set_option maxHeartbeats 1000000 in
theorem clos3 (n : Nat) (hn : HoldsN n) (t : Wt n) (v0 v1 v2 u : Value) (k : Int) (B : Nat) (w : World) (hr : RepW w n [v0, v1, v2] t) (hg : wgt n t = true) (hk : Kd k u) (k0 : 0 ≤ k) (k1 : k ≤ 13) (hu : w.cell? ⟨B, 0, none⟩ = some u) :
    Calls Tryz.prog 75 #[.agg #[v0, v1, v2], .pointer (some ⟨B, 0, none⟩)] w fun e w' => e = .returned (.bool (evk n t k)) ∧ Below w.heap.size w w' := by
  have hB : B < w.heap.size := World.block_lt_of_cell? w _ hu
  obtain ⟨o, m, ad, len, cap, rfl, rfl, rfl⟩ := repW_shape hr
  have H : Hid (∀ wx, Below w.heap.size w wx → Calls Tryz.prog 45 #[.agg #[.int .i64 o, .int .i64 m, .slice ad len cap], u] wx fun e w' => e = .returned (.bool (evk n t k)) ∧ Below w.heap.size w w') := fun wx hx => since (hn t _ _ _ u k wx (RepW.below hx n _ _ hr) hg hk k0 k1) hx
  have hc : ∀ ob : Obj, (w.alloc ob).cell? ⟨B, 0, none⟩ = some u := fun ob => (Below.cell (below1 w ob) (p := ⟨B, 0, none⟩) hB).trans hu
  have b1 := below1 w (.cells #[.int .i64 o, .int .i64 m, .slice ad len cap] 40)
  clear hn hr hg hk k0 k1 hu
  go_enter Tryz.func75, Tryz.ntmps75
  go_wp2_with fail
  refine (H.out _ b1).mono ?_
  rintro e w1 ⟨rfl, b2⟩
  go_wp2
  go_ret
  exact ⟨rfl, b2⟩

set_option maxRecDepth 100000 in
set_option maxHeartbeats 1000000 in
theorem index3 (n : Nat) (hn : HoldsN n) (ts : List (Wt n)) (ad : Option Addr) (cap : Nat) (u : Value) (k : Int) (B : Nat) (w : World) (hcap : ts.length ≤ cap) (hmax : cap ≤ maxLen)
    (hr : ts = [] ∨ ∃ g o, ad = some ⟨g, o, none⟩ ∧ ∀ (j : Nat) (t' : Wt n), ts[j]? = some t' → ∃ v0 v1 v2, w.cell? ⟨g, o + j * 3, none⟩ = some v0 ∧ w.cell? ⟨g, o + j * 3 + 1, none⟩ = some v1 ∧ w.cell? ⟨g, o + j * 3 + 2, none⟩ = some v2 ∧ RepW w n [v0, v1, v2] t')
    (hg : ∀ t ∈ ts, wgt n t = true) (hk : Kd k u) (k0 : 0 ≤ k) (k1 : k ≤ 13) (hu : w.cell? ⟨B, 0, none⟩ = some u) :
    Calls Tryz.prog 85 #[.slice ad ts.length cap, .func (.func 75) #[] #[.pointer (some ⟨B, 0, none⟩)]] w fun e w' => e = .returned (.int .i64 (fst (fun x => evk n x k) ts 0)) ∧ Below w.heap.size w w' := by
  have hB : B < w.heap.size := World.block_lt_of_cell? w _ hu
  unfold maxLen at hmax
  have HC : Hid (∀ (t : Wt n) (v0 v1 v2 : Value) (wx : World), t ∈ ts → RepW w n [v0, v1, v2] t → Below w.heap.size w wx → Calls Tryz.prog 75 #[.agg #[v0, v1, v2], .pointer (some ⟨B, 0, none⟩)] wx fun e w' => e = .returned (.bool (evk n t k)) ∧ Below w.heap.size w w') := fun t v0 v1 v2 wx ht hx hb => since (clos3 n hn t v0 v1 v2 u k B wx (RepW.below hb n _ _ hx) (hg t ht) hk k0 k1 ((Below.cell hb (p := ⟨B, 0, none⟩) hB).trans hu)) hb
  have HK := Lib.hid hr
  clear hn hg hk k0 k1 hu hr
  generalize hpp : (fun x : Wt n => evk n x k) = pp
  have HP := Lib.hid hpp
  clear hpp
  go_enter Tryz.func85, Tryz.ntmps85
  go_wp2_with fail
  go_loopw [8] (fun si wr => ∃ (j : Nat), si = .int .i64 j ∧ j ≤ ts.length ∧ fst pp (ts.drop j) j = fst pp ts 0 ∧ Below w.heap.size w wr) (fun si _ => ts.length - (intOf si).toNat)
  case atStart => exact ⟨0, rfl, Nat.zero_le _, rfl, Below.refl _ _⟩
  case round =>
    obtain ⟨j, rfl, hj, hinv, hb⟩ := hrel
    have HV := Lib.hid hinv
    clear hinv
    by_cases hlt : j < ts.length
    · have hne : ts ≠ [] := by intro e; rw [e] at hlt; exact absurd hlt (Nat.not_lt_zero _)
      rcases HK.out with hk | ⟨g, o, hk1, hk2⟩
      · exact absurd hk hne
      subst hk1
      obtain ⟨v0, v1, v2, e0, e1, e2, rk⟩ := hk2 j _ (List.getElem?_eq_getElem hlt)
      have hgl : g < w.heap.size := World.block_lt_of_cell? w _ e0
      have x0 := (hb.cell (p := ⟨g, o + j * 3, none⟩) hgl).trans e0
      have x1 := (hb.cell (p := ⟨g, o + j * 3 + 1, none⟩) hgl).trans e1
      have x2 := (hb.cell (p := ⟨g, o + j * 3 + 2, none⟩) hgl).trans e2
      clear e0 e1 e2 hk2 HK
      go_wp2_with fail
      refine (HC.out ts[j] v0 v1 v2 wr (List.getElem_mem hlt) rk hb).mono ?_
      rintro e w1 ⟨he, b1⟩
      have hv := HV.out
      rw [drop_atW ts j hlt, fst_cons] at hv
      clear x0 x1 x2 rk HV
      obtain ⟨bb, hbb⟩ : ∃ bb : Bool, (evk n ts[j] k) = bb := ⟨_, rfl⟩
      have hpb : pp ts[j] = bb := by rw [← HP.out]; exact hbb
      rw [hbb] at he
      clear hbb
      subst he
      cases bb with
      | true =>
        rw [if_pos hpb] at hv
        have HW := Lib.hid hv
        clear hv hpb
        go_wp2_with fail
        go_ret
        exact ⟨by rw [← HW.out]; rfl, b1⟩
      | false =>
        rw [if_neg (by rw [hpb]; decide)] at hv
        have HW := Lib.hid hv
        clear hv hpb
        go_wp2_with fail
        exact ⟨⟨j + 1, by go_num, by omega, HW.out, b1⟩, by simp [intOf]; omega⟩
    · have hje : j = ts.length := by omega
      have hv := HV.out
      rw [hje, List.drop_length] at hv
      have HW := Lib.hid hv
      clear hv HV
      go_wp2_with fail
      go_ret
      exact ⟨by rw [← HW.out]; rfl, hb⟩

set_option maxRecDepth 100000 in
set_option maxHeartbeats 1000000 in
theorem contains3 (n : Nat) (hn : HoldsN n) (ts : List (Wt n)) (ad : Option Addr) (cap : Nat) (u : Value) (k : Int) (B : Nat) (w : World) (hcap : ts.length ≤ cap) (hmax : cap ≤ maxLen)
    (hr : ts = [] ∨ ∃ g o, ad = some ⟨g, o, none⟩ ∧ ∀ (j : Nat) (t' : Wt n), ts[j]? = some t' → ∃ v0 v1 v2, w.cell? ⟨g, o + j * 3, none⟩ = some v0 ∧ w.cell? ⟨g, o + j * 3 + 1, none⟩ = some v1 ∧ w.cell? ⟨g, o + j * 3 + 2, none⟩ = some v2 ∧ RepW w n [v0, v1, v2] t')
    (hg : ∀ t ∈ ts, wgt n t = true) (hk : Kd k u) (k0 : 0 ≤ k) (k1 : k ≤ 13) (hu : w.cell? ⟨B, 0, none⟩ = some u) :
    Calls Tryz.prog 72 #[.slice ad ts.length cap, .func (.func 75) #[] #[.pointer (some ⟨B, 0, none⟩)]] w fun e w' => e = .returned (.bool (ts.any fun x => evk n x k)) ∧ Below w.heap.size w w' := by
  have H := Lib.hid (index3 n hn ts ad cap u k B w hcap hmax hr hg hk k0 k1 hu)
  clear hn hg hk k0 k1 hu hr hcap hmax
  generalize hpp : (fun x : Wt n => evk n x k) = pp at H
  obtain ⟨f1, f2, f3⟩ := fst_bd pp ts 0
  have ez : ts.any pp = decide (0 ≤ fst pp ts 0) := by
    by_cases h : ts.any pp = true
    · rw [h, decide_eq_true (f2.2 h)]
    · have h' : ts.any pp = false := by simpa using h
      rw [h', decide_eq_false (fun h2 => h (f2.1 h2))]
  rw [ez]
  clear hpp ez f1 f2 f3
  generalize fst pp ts 0 = z at H
  go_enter Tryz.func72, Tryz.ntmps72
  go_wp2_with fail
  refine H.out.mono ?_
  rintro e w1 ⟨rfl, b1⟩
  go_wp2
  all_goals go_ret
  all_goals exact ⟨ret_b (by simp), b1⟩

set_option maxRecDepth 100000 in
set_option maxHeartbeats 1000000 in
theorem holds4n (n : Nat) (hn : HoldsN n) (t : Wt (n + 1)) (m : Int) (ad : Option Addr) (cap : Nat) (k : Int) (w : World) (hcap : t.ks.length ≤ cap) (hmax : cap ≤ maxLen)
    (hr : t.ks = [] ∨ ∃ g o, ad = some ⟨g, o, none⟩ ∧ ∀ (j : Nat) (t' : Wt n), t.ks[j]? = some t' → ∃ v0 v1 v2, w.cell? ⟨g, o + j * 3, none⟩ = some v0 ∧ w.cell? ⟨g, o + j * 3 + 1, none⟩ = some v1 ∧ w.cell? ⟨g, o + j * 3 + 2, none⟩ = some v2 ∧ RepW w n [v0, v1, v2] t')
    (hg : ∀ t' ∈ t.ks, wgt n t' = true) (hk : Kd k .nilIface) (k0 : 0 ≤ k) (k1 : k ≤ 13) :
    Calls Tryz.prog 45 #[.agg #[.int .i64 4, .int .i64 m, .slice ad t.ks.length cap], .nilIface] w fun e w' => e = .returned (.bool (t.ks.any fun s => evk n s k)) ∧ Below w.heap.size w w' := by
  have hmf : ∀ (fn : Fn) (first cap : Array Value) (w : World), (Instr.makeFunc fn first cap).run Tryz.prog w = .ok (.func fn first cap) w := fun _ _ _ _ => rfl
  have h2 := Two.start w 4 m ad t.ks.length cap .nilIface
  have HC : Hid (Calls Tryz.prog 72 #[.slice ad t.ks.length cap, .func (.func 73) #[] #[.pointer (some ⟨w.heap.size + 1, 0, none⟩)]] ((w.alloc (.cells #[.int .i64 4, .int .i64 m, .slice ad t.ks.length cap] 40)).alloc (.cells #[.nilIface] 20)) fun e w' => e = .returned (.bool (t.ks.any fun s => evk n s k)) ∧ Below w.heap.size w w') :=
    since (contains1 n hn t.ks ad cap _ k (w.heap.size + 1) _ hcap hmax (by
      rcases hr with hr | ⟨g, o, h6, h7⟩
      · exact .inl hr
      · refine .inr ⟨g, o, h6, fun j t' hj => ?_⟩
        obtain ⟨v0, v1, v2, c0, c1, c2, r⟩ := h7 j t' hj
        have hgl : g < w.heap.size := World.block_lt_of_cell? w _ c0
        have hb := h2.below
        exact ⟨v0, v1, v2, (hb.cell (p := ⟨g, _, none⟩) hgl).trans c0, (hb.cell (p := ⟨g, _, none⟩) hgl).trans c1, (hb.cell (p := ⟨g, _, none⟩) hgl).trans c2, RepW.below hb n _ _ r⟩) hg hk k0 k1 h2.cu) h2.below
  have c2 := h2.c2
  clear hn hr hg hk k0 k1 hcap hmax h2
  generalize (t.ks.any fun s => evk n s k) = bb at HC
  go_enter Tryz.func45, Tryz.ntmps45
  go_wp2_with fail
  refine HC.out.mono ?_
  rintro e w1 ⟨rfl, b1⟩
  go_wp2
  go_ret
  exact ⟨rfl, b1⟩

set_option maxRecDepth 100000 in
set_option maxHeartbeats 1000000 in
theorem holds4v (n : Nat) (hn : HoldsN n) (t : Wt (n + 1)) (m : Int) (ad : Option Addr) (cap : Nat) (k : Int) (T : TypeId) (z : Value) (w : World) (hcap : t.ks.length ≤ cap) (hmax : cap ≤ maxLen)
    (hr : t.ks = [] ∨ ∃ g o, ad = some ⟨g, o, none⟩ ∧ ∀ (j : Nat) (t' : Wt n), t.ks[j]? = some t' → ∃ v0 v1 v2, w.cell? ⟨g, o + j * 3, none⟩ = some v0 ∧ w.cell? ⟨g, o + j * 3 + 1, none⟩ = some v1 ∧ w.cell? ⟨g, o + j * 3 + 2, none⟩ = some v2 ∧ RepW w n [v0, v1, v2] t')
    (hg : ∀ t' ∈ t.ks, wgt n t' = true) (hk : Kd k (.iface T z)) (k0 : 0 ≤ k) (k1 : k ≤ 13) :
    Calls Tryz.prog 45 #[.agg #[.int .i64 4, .int .i64 m, .slice ad t.ks.length cap], (.iface T z)] w fun e w' => e = .returned (.bool (t.ks.any fun s => evk n s k)) ∧ Below w.heap.size w w' := by
  have hmf : ∀ (fn : Fn) (first cap : Array Value) (w : World), (Instr.makeFunc fn first cap).run Tryz.prog w = .ok (.func fn first cap) w := fun _ _ _ _ => rfl
  have h2 := Two.start w 4 m ad t.ks.length cap (.iface T z)
  have HC : Hid (Calls Tryz.prog 72 #[.slice ad t.ks.length cap, .func (.func 73) #[] #[.pointer (some ⟨w.heap.size + 1, 0, none⟩)]] ((w.alloc (.cells #[.int .i64 4, .int .i64 m, .slice ad t.ks.length cap] 40)).alloc (.cells #[(.iface T z)] 20)) fun e w' => e = .returned (.bool (t.ks.any fun s => evk n s k)) ∧ Below w.heap.size w w') :=
    since (contains1 n hn t.ks ad cap _ k (w.heap.size + 1) _ hcap hmax (by
      rcases hr with hr | ⟨g, o, h6, h7⟩
      · exact .inl hr
      · refine .inr ⟨g, o, h6, fun j t' hj => ?_⟩
        obtain ⟨v0, v1, v2, c0, c1, c2, r⟩ := h7 j t' hj
        have hgl : g < w.heap.size := World.block_lt_of_cell? w _ c0
        have hb := h2.below
        exact ⟨v0, v1, v2, (hb.cell (p := ⟨g, _, none⟩) hgl).trans c0, (hb.cell (p := ⟨g, _, none⟩) hgl).trans c1, (hb.cell (p := ⟨g, _, none⟩) hgl).trans c2, RepW.below hb n _ _ r⟩) hg hk k0 k1 h2.cu) h2.below
  have c2 := h2.c2
  clear hn hr hg hk k0 k1 hcap hmax h2
  generalize (t.ks.any fun s => evk n s k) = bb at HC
  go_enter Tryz.func45, Tryz.ntmps45
  go_wp2_with fail
  refine HC.out.mono ?_
  rintro e w1 ⟨rfl, b1⟩
  go_wp2
  go_ret
  exact ⟨rfl, b1⟩

set_option maxRecDepth 100000 in
set_option maxHeartbeats 1000000 in
theorem holds5n (n : Nat) (hn : HoldsN n) (t : Wt (n + 1)) (m : Int) (ad : Option Addr) (cap : Nat) (k : Int) (w : World) (hcap : t.ks.length ≤ cap) (hmax : cap ≤ maxLen)
    (hr : t.ks = [] ∨ ∃ g o, ad = some ⟨g, o, none⟩ ∧ ∀ (j : Nat) (t' : Wt n), t.ks[j]? = some t' → ∃ v0 v1 v2, w.cell? ⟨g, o + j * 3, none⟩ = some v0 ∧ w.cell? ⟨g, o + j * 3 + 1, none⟩ = some v1 ∧ w.cell? ⟨g, o + j * 3 + 2, none⟩ = some v2 ∧ RepW w n [v0, v1, v2] t')
    (hg : ∀ t' ∈ t.ks, wgt n t' = true) (hk : Kd k .nilIface) (k0 : 0 ≤ k) (k1 : k ≤ 13) :
    Calls Tryz.prog 45 #[.agg #[.int .i64 5, .int .i64 m, .slice ad t.ks.length cap], .nilIface] w fun e w' => e = .returned (.bool (!(t.ks.any fun s => !(evk n s k)))) ∧ Below w.heap.size w w' := by
  have hmf : ∀ (fn : Fn) (first cap : Array Value) (w : World), (Instr.makeFunc fn first cap).run Tryz.prog w = .ok (.func fn first cap) w := fun _ _ _ _ => rfl
  have h2 := Two.start w 5 m ad t.ks.length cap .nilIface
  have HC : Hid (Calls Tryz.prog 72 #[.slice ad t.ks.length cap, .func (.func 74) #[] #[.pointer (some ⟨w.heap.size + 1, 0, none⟩)]] ((w.alloc (.cells #[.int .i64 5, .int .i64 m, .slice ad t.ks.length cap] 40)).alloc (.cells #[.nilIface] 20)) fun e w' => e = .returned (.bool (t.ks.any fun s => !(evk n s k))) ∧ Below w.heap.size w w') :=
    since (contains2 n hn t.ks ad cap _ k (w.heap.size + 1) _ hcap hmax (by
      rcases hr with hr | ⟨g, o, h6, h7⟩
      · exact .inl hr
      · refine .inr ⟨g, o, h6, fun j t' hj => ?_⟩
        obtain ⟨v0, v1, v2, c0, c1, c2, r⟩ := h7 j t' hj
        have hgl : g < w.heap.size := World.block_lt_of_cell? w _ c0
        have hb := h2.below
        exact ⟨v0, v1, v2, (hb.cell (p := ⟨g, _, none⟩) hgl).trans c0, (hb.cell (p := ⟨g, _, none⟩) hgl).trans c1, (hb.cell (p := ⟨g, _, none⟩) hgl).trans c2, RepW.below hb n _ _ r⟩) hg hk k0 k1 h2.cu) h2.below
  have c2 := h2.c2
  clear hn hr hg hk k0 k1 hcap hmax h2
  generalize (t.ks.any fun s => !(evk n s k)) = bb at HC
  go_enter Tryz.func45, Tryz.ntmps45
  go_wp2_with fail
  refine HC.out.mono ?_
  rintro e w1 ⟨rfl, b1⟩
  go_wp2
  go_ret
  exact ⟨rfl, b1⟩

set_option maxRecDepth 100000 in
set_option maxHeartbeats 1000000 in
theorem holds5v (n : Nat) (hn : HoldsN n) (t : Wt (n + 1)) (m : Int) (ad : Option Addr) (cap : Nat) (k : Int) (T : TypeId) (z : Value) (w : World) (hcap : t.ks.length ≤ cap) (hmax : cap ≤ maxLen)
    (hr : t.ks = [] ∨ ∃ g o, ad = some ⟨g, o, none⟩ ∧ ∀ (j : Nat) (t' : Wt n), t.ks[j]? = some t' → ∃ v0 v1 v2, w.cell? ⟨g, o + j * 3, none⟩ = some v0 ∧ w.cell? ⟨g, o + j * 3 + 1, none⟩ = some v1 ∧ w.cell? ⟨g, o + j * 3 + 2, none⟩ = some v2 ∧ RepW w n [v0, v1, v2] t')
    (hg : ∀ t' ∈ t.ks, wgt n t' = true) (hk : Kd k (.iface T z)) (k0 : 0 ≤ k) (k1 : k ≤ 13) :
    Calls Tryz.prog 45 #[.agg #[.int .i64 5, .int .i64 m, .slice ad t.ks.length cap], (.iface T z)] w fun e w' => e = .returned (.bool (!(t.ks.any fun s => !(evk n s k)))) ∧ Below w.heap.size w w' := by
  have hmf : ∀ (fn : Fn) (first cap : Array Value) (w : World), (Instr.makeFunc fn first cap).run Tryz.prog w = .ok (.func fn first cap) w := fun _ _ _ _ => rfl
  have h2 := Two.start w 5 m ad t.ks.length cap (.iface T z)
  have HC : Hid (Calls Tryz.prog 72 #[.slice ad t.ks.length cap, .func (.func 74) #[] #[.pointer (some ⟨w.heap.size + 1, 0, none⟩)]] ((w.alloc (.cells #[.int .i64 5, .int .i64 m, .slice ad t.ks.length cap] 40)).alloc (.cells #[(.iface T z)] 20)) fun e w' => e = .returned (.bool (t.ks.any fun s => !(evk n s k))) ∧ Below w.heap.size w w') :=
    since (contains2 n hn t.ks ad cap _ k (w.heap.size + 1) _ hcap hmax (by
      rcases hr with hr | ⟨g, o, h6, h7⟩
      · exact .inl hr
      · refine .inr ⟨g, o, h6, fun j t' hj => ?_⟩
        obtain ⟨v0, v1, v2, c0, c1, c2, r⟩ := h7 j t' hj
        have hgl : g < w.heap.size := World.block_lt_of_cell? w _ c0
        have hb := h2.below
        exact ⟨v0, v1, v2, (hb.cell (p := ⟨g, _, none⟩) hgl).trans c0, (hb.cell (p := ⟨g, _, none⟩) hgl).trans c1, (hb.cell (p := ⟨g, _, none⟩) hgl).trans c2, RepW.below hb n _ _ r⟩) hg hk k0 k1 h2.cu) h2.below
  have c2 := h2.c2
  clear hn hr hg hk k0 k1 hcap hmax h2
  generalize (t.ks.any fun s => !(evk n s k)) = bb at HC
  go_enter Tryz.func45, Tryz.ntmps45
  go_wp2_with fail
  refine HC.out.mono ?_
  rintro e w1 ⟨rfl, b1⟩
  go_wp2
  go_ret
  exact ⟨rfl, b1⟩

set_option maxRecDepth 100000 in
set_option maxHeartbeats 1000000 in
theorem holds6n (n : Nat) (hn : HoldsN n) (t : Wt (n + 1)) (m : Int) (ad : Option Addr) (cap : Nat) (k : Int) (w : World) (hcap : t.ks.length ≤ cap) (hmax : cap ≤ maxLen)
    (hr : t.ks = [] ∨ ∃ g o, ad = some ⟨g, o, none⟩ ∧ ∀ (j : Nat) (t' : Wt n), t.ks[j]? = some t' → ∃ v0 v1 v2, w.cell? ⟨g, o + j * 3, none⟩ = some v0 ∧ w.cell? ⟨g, o + j * 3 + 1, none⟩ = some v1 ∧ w.cell? ⟨g, o + j * 3 + 2, none⟩ = some v2 ∧ RepW w n [v0, v1, v2] t')
    (hg : ∀ t' ∈ t.ks, wgt n t' = true) (hk : Kd k .nilIface) (k0 : 0 ≤ k) (k1 : k ≤ 13) :
    Calls Tryz.prog 45 #[.agg #[.int .i64 6, .int .i64 m, .slice ad t.ks.length cap], .nilIface] w fun e w' => e = .returned (.bool (!(t.ks.any fun s => evk n s k))) ∧ Below w.heap.size w w' := by
  have hmf : ∀ (fn : Fn) (first cap : Array Value) (w : World), (Instr.makeFunc fn first cap).run Tryz.prog w = .ok (.func fn first cap) w := fun _ _ _ _ => rfl
  have h2 := Two.start w 6 m ad t.ks.length cap .nilIface
  have HC : Hid (Calls Tryz.prog 72 #[.slice ad t.ks.length cap, .func (.func 75) #[] #[.pointer (some ⟨w.heap.size + 1, 0, none⟩)]] ((w.alloc (.cells #[.int .i64 6, .int .i64 m, .slice ad t.ks.length cap] 40)).alloc (.cells #[.nilIface] 20)) fun e w' => e = .returned (.bool (t.ks.any fun s => evk n s k)) ∧ Below w.heap.size w w') :=
    since (contains3 n hn t.ks ad cap _ k (w.heap.size + 1) _ hcap hmax (by
      rcases hr with hr | ⟨g, o, h6, h7⟩
      · exact .inl hr
      · refine .inr ⟨g, o, h6, fun j t' hj => ?_⟩
        obtain ⟨v0, v1, v2, c0, c1, c2, r⟩ := h7 j t' hj
        have hgl : g < w.heap.size := World.block_lt_of_cell? w _ c0
        have hb := h2.below
        exact ⟨v0, v1, v2, (hb.cell (p := ⟨g, _, none⟩) hgl).trans c0, (hb.cell (p := ⟨g, _, none⟩) hgl).trans c1, (hb.cell (p := ⟨g, _, none⟩) hgl).trans c2, RepW.below hb n _ _ r⟩) hg hk k0 k1 h2.cu) h2.below
  have c2 := h2.c2
  clear hn hr hg hk k0 k1 hcap hmax h2
  generalize (t.ks.any fun s => evk n s k) = bb at HC
  go_enter Tryz.func45, Tryz.ntmps45
  go_wp2_with fail
  refine HC.out.mono ?_
  rintro e w1 ⟨rfl, b1⟩
  go_wp2
  go_ret
  exact ⟨rfl, b1⟩

set_option maxRecDepth 100000 in
set_option maxHeartbeats 1000000 in
theorem holds6v (n : Nat) (hn : HoldsN n) (t : Wt (n + 1)) (m : Int) (ad : Option Addr) (cap : Nat) (k : Int) (T : TypeId) (z : Value) (w : World) (hcap : t.ks.length ≤ cap) (hmax : cap ≤ maxLen)
    (hr : t.ks = [] ∨ ∃ g o, ad = some ⟨g, o, none⟩ ∧ ∀ (j : Nat) (t' : Wt n), t.ks[j]? = some t' → ∃ v0 v1 v2, w.cell? ⟨g, o + j * 3, none⟩ = some v0 ∧ w.cell? ⟨g, o + j * 3 + 1, none⟩ = some v1 ∧ w.cell? ⟨g, o + j * 3 + 2, none⟩ = some v2 ∧ RepW w n [v0, v1, v2] t')
    (hg : ∀ t' ∈ t.ks, wgt n t' = true) (hk : Kd k (.iface T z)) (k0 : 0 ≤ k) (k1 : k ≤ 13) :
    Calls Tryz.prog 45 #[.agg #[.int .i64 6, .int .i64 m, .slice ad t.ks.length cap], (.iface T z)] w fun e w' => e = .returned (.bool (!(t.ks.any fun s => evk n s k))) ∧ Below w.heap.size w w' := by
  have hmf : ∀ (fn : Fn) (first cap : Array Value) (w : World), (Instr.makeFunc fn first cap).run Tryz.prog w = .ok (.func fn first cap) w := fun _ _ _ _ => rfl
  have h2 := Two.start w 6 m ad t.ks.length cap (.iface T z)
  have HC : Hid (Calls Tryz.prog 72 #[.slice ad t.ks.length cap, .func (.func 75) #[] #[.pointer (some ⟨w.heap.size + 1, 0, none⟩)]] ((w.alloc (.cells #[.int .i64 6, .int .i64 m, .slice ad t.ks.length cap] 40)).alloc (.cells #[(.iface T z)] 20)) fun e w' => e = .returned (.bool (t.ks.any fun s => evk n s k)) ∧ Below w.heap.size w w') :=
    since (contains3 n hn t.ks ad cap _ k (w.heap.size + 1) _ hcap hmax (by
      rcases hr with hr | ⟨g, o, h6, h7⟩
      · exact .inl hr
      · refine .inr ⟨g, o, h6, fun j t' hj => ?_⟩
        obtain ⟨v0, v1, v2, c0, c1, c2, r⟩ := h7 j t' hj
        have hgl : g < w.heap.size := World.block_lt_of_cell? w _ c0
        have hb := h2.below
        exact ⟨v0, v1, v2, (hb.cell (p := ⟨g, _, none⟩) hgl).trans c0, (hb.cell (p := ⟨g, _, none⟩) hgl).trans c1, (hb.cell (p := ⟨g, _, none⟩) hgl).trans c2, RepW.below hb n _ _ r⟩) hg hk k0 k1 h2.cu) h2.below
  have c2 := h2.c2
  clear hn hr hg hk k0 k1 hcap hmax h2
  generalize (t.ks.any fun s => evk n s k) = bb at HC
  go_enter Tryz.func45, Tryz.ntmps45
  go_wp2_with fail
  refine HC.out.mono ?_
  rintro e w1 ⟨rfl, b1⟩
  go_wp2
  go_ret
  exact ⟨rfl, b1⟩

theorem all_not_any {T : Type} (p : T → Bool) : ∀ l : List T, (!(l.any fun s => !(p s))) = l.all p
  | [] => rfl
  | x :: l => by
    have := all_not_any p l
    simp only [List.any_cons, List.all_cons, ← this]
    cases p x <;> simp

theorem holds_any : ∀ n, HoldsN n
  | 0 => fun _ _ _ _ _ _ _ h => h.elim
  | n + 1 => by
    have hn := holds_any n
    intro t v0 v1 v2 u k w hr hg hk k0 k1
    obtain ⟨ad, cap, e, hcap, hmax, hr'⟩ := hr
    simp only [List.cons.injEq, and_true] at e
    obtain ⟨rfl, rfl, rfl⟩ := e
    simp only [wgt, Bool.and_eq_true, List.all_eq_true] at hg
    obtain ⟨ho, hgs⟩ := hg
    have hop := okW_op ho
    unfold Wt.ok at ho
    simp only [evk]
    rcases hop with e | e | e | e | e | e
    · simp only [e, if_true]; exact holds1 t.nm ad _ cap k u w hk k0 k1
    · simp only [e, if_true, show ¬ (2 : Int) = 1 by decide, if_false]
      rw [e] at ho
      have ho' := of_decide_eq_true (show decide (0 ≤ t.nm ∧ t.nm < 14 ∧ t.ks.length = 0) = true from ho)
      exact holds2 t.nm ho'.1 (by omega) ad _ cap k u w hk k0 k1
    · simp only [e, if_true, show ¬ (3 : Int) = 1 by decide, show ¬ (3 : Int) = 2 by decide, if_false]
      exact holds3 t.nm ad _ cap k u w hk
    · simp only [e, if_true, show ¬ (4 : Int) = 1 by decide, show ¬ (4 : Int) = 2 by decide, show ¬ (4 : Int) = 3 by decide, if_false]
      rcases hk.sx with rfl | ⟨T, z, rfl⟩
      · exact holds4n n hn t t.nm ad cap k w hcap hmax hr' hgs hk k0 k1
      · exact holds4v n hn t t.nm ad cap k T z w hcap hmax hr' hgs hk k0 k1
    · simp only [e, if_true, show ¬ (5 : Int) = 1 by decide, show ¬ (5 : Int) = 2 by decide, show ¬ (5 : Int) = 3 by decide, show ¬ (5 : Int) = 4 by decide, if_false]
      rw [← all_not_any]
      rcases hk.sx with rfl | ⟨T, z, rfl⟩
      · exact holds5n n hn t t.nm ad cap k w hcap hmax hr' hgs hk k0 k1
      · exact holds5v n hn t t.nm ad cap k T z w hcap hmax hr' hgs hk k0 k1
    · simp only [e, if_true, show ¬ (6 : Int) = 1 by decide, show ¬ (6 : Int) = 2 by decide, show ¬ (6 : Int) = 3 by decide, show ¬ (6 : Int) = 4 by decide, show ¬ (6 : Int) = 5 by decide, if_false]
      rcases hk.sx with rfl | ⟨T, z, rfl⟩
      · exact holds6n n hn t t.nm ad cap k w hcap hmax hr' hgs hk k0 k1
      · exact holds6v n hn t t.nm ad cap k T z w hcap hmax hr' hgs hk k0 k1
end Go.Proofs.YtajagjcfmaggiaaGreatDoor
/- The package's Kinds, Holds, Covers and Meets at right patterns: the kinds of which the pattern holds, as bits, and what follows of them; the conditions: the patterns' trees lie in memory and are right. -/
namespace Go.Proofs.YtajagjcfmaggiaaGreatDoor
open Go.RowKit

theorem bit_at (j : Nat) (h : j < 14) : (2 : Int) ^ j % 4294967296 = ((2 ^ j : Nat) : Int) := by
  have : j = 0 ∨ j = 1 ∨ j = 2 ∨ j = 3 ∨ j = 4 ∨ j = 5 ∨ j = 6 ∨ j = 7 ∨ j = 8 ∨ j = 9 ∨ j = 10 ∨ j = 11 ∨ j = 12 ∨ j = 13 := by omega
  rcases this with rfl | rfl | rfl | rfl | rfl | rfl | rfl | rfl | rfl | rfl | rfl | rfl | rfl | rfl <;> decide
theorem or_at (p : Int → Bool) (j : Nat) (h : j < 14) (hp : p j = true) : bits .or .u32 ((kset p j : Nat) : Int) ((2 : Int) ^ j % 4294967296) = ((kset p (j + 1) : Nat) : Int) := by
  have h1 := kset_lt p j
  have h2 : (2 : Nat) ^ j ≤ 2 ^ 13 := Nat.pow_le_pow_right (by decide) (by omega)
  rw [bit_at j h, u32_or_nat _ _ (by omega) (by omega)]
  simp only [kset, if_pos hp]

theorem kset_no (p : Int → Bool) (j : Nat) (hp : p j = false) : kset p j = kset p (j + 1) := by simp only [kset, hp]; rfl
/-- The pattern's own block, whatever is done behind it. -/
def One (w : World) (v0 v1 v2 : Value) (w' : World) : Prop := Below (w.heap.size + 1) (w.alloc (.cells #[v0, v1, v2] 40)) w'
theorem One.drew {w : World} {v0 v1 v2 : Value} {w' : World} (h : One w v0 v1 v2 w') : One w v0 v1 v2 w'.drew := Below.drew h
theorem One.below {w : World} {v0 v1 v2 : Value} {w' : World} (h : One w v0 v1 v2 w') : Below w.heap.size w w' := (below1 w _).trans (Below.mono h (by omega))
theorem One.step {w : World} {v0 v1 v2 : Value} {w1 w2 : World} (h : One w v0 v1 v2 w1) (hb : Below w1.heap.size w1 w2) : One w v0 v1 v2 w2 := by
  have := Below.size h
  simp at this
  exact Below.trans h (hb.mono (by omega))
theorem One.c {w : World} {v0 v1 v2 : Value} {w' : World} (h : One w v0 v1 v2 w') : w'.cell? ⟨w.heap.size, 0, none⟩ = some v0 ∧ w'.cell? ⟨w.heap.size, 1, none⟩ = some v1 ∧ w'.cell? ⟨w.heap.size, 2, none⟩ = some v2 := by
  obtain ⟨h0, h1, h2⟩ := (P3.new w v0 v1 v2).c
  refine ⟨?_, ?_, ?_⟩
  · rw [← h0]; exact Below.cell h (p := ⟨w.heap.size, 0, none⟩) (by show w.heap.size < w.heap.size + 1; omega)
  · rw [← h1]; exact Below.cell h (p := ⟨w.heap.size, 1, none⟩) (by show w.heap.size < w.heap.size + 1; omega)
  · rw [← h2]; exact Below.cell h (p := ⟨w.heap.size, 2, none⟩) (by show w.heap.size < w.heap.size + 1; omega)
theorem One.start (w : World) (v0 v1 v2 : Value) : One w v0 v1 v2 (w.alloc (.cells #[v0, v1, v2] 40)) := Below.refl _ _

/-- What the two blocks of Holds keep. -/
def OneD (w : World) (v0 v1 v2 : Value) (k i b : Int) (s : ByteArray) (ad : Option Addr) (len cap : Nat) (w' : World) : Prop :=
  Below (w.heap.size + 2) ((w.alloc (.cells #[v0, v1, v2] 40)).alloc (.cells #[.int .i64 k, .int .i64 i, .int .u64 b, .string s, .slice ad len cap] 25)) w'
end Go.Proofs.YtajagjcfmaggiaaGreatDoor
