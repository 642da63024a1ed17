/- What the package's inner 'holds' answers at a pattern without parts; the conditions: the pattern is right, the value is of a kind from 0 to 13. -/
import Derived.Test.YtkgbpildikjoiaaGreatDoorRepW
namespace Go.Proofs.YtkgbpildikjoiaaGreatDoor
open Go.RowKit

theorem Kd.sx {k : Int} {u : Value} (h : Kd k u) : Sx u := by
  rcases h with ⟨_, h⟩ | ⟨_, _, v, h, _⟩
  · exact .inl h
  · exact .inr ⟨_, _, h⟩
theorem Kd.nil_iff {k : Int} {u : Value} (h : Kd k u) (h0 : 0 ≤ k) (h1 : k ≤ 13) : (k = 0 ∧ u = .nilIface) ∨ (k ≠ 0 ∧ ∃ T z, u = .iface T z) := by
  rcases h with ⟨h2, h⟩ | ⟨h2, _, v, h, _⟩
  · exact .inl ⟨by omega, h⟩
  · exact .inr ⟨by omega, _, _, h⟩

set_option maxRecDepth 100000 in
set_option maxHeartbeats 1000000 in
theorem holds1 (m : Int) (ad : Option Addr) (len cap : Nat) (k : Int) (u : Value) (w : World) (hk : Kd k u) (h0 : 0 ≤ k) (h1 : k ≤ 13) :
    Calls Tryz.prog 74 #[.agg #[.int .i64 1, .int .i64 m, .slice ad len cap], u] w fun e w' => e = .returned (.bool (k != 0)) ∧ Below w.heap.size w w' := by
  rcases hk.nil_iff h0 h1 with ⟨rfl, rfl⟩ | ⟨hne, T, z, rfl⟩
  · clear hk h0 h1
    go_enter Tryz.func74, Tryz.ntmps74
    go_wp2
    go_ret
    exact ⟨rfl, below2 w _ _⟩
  · have e : (k != 0) = true := by simpa using hne
    rw [e]
    clear hk h0 h1 hne e
    go_enter Tryz.func74, Tryz.ntmps74
    go_wp2
    go_ret
    exact ⟨rfl, below2 w _ _⟩

theorem cell_of {w : World} {N T : Nat} {v : Value} (h : w.heap[N]? = some (.cells #[v] T (0, 0))) : w.cell? ⟨N, 0, none⟩ = some v := by simp [World.cell?, h]
/-- The two blocks that 'holds' begins with. -/
def Two (w : World) (o m : Int) (ad : Option Addr) (len cap : Nat) (u : Value) (w' : World) : Prop :=
  Below (w.heap.size + 2) ((w.alloc (.cells #[.int .i64 o, .int .i64 m, .slice ad len cap] 43)).alloc (.cells #[u] 20)) w'
theorem Two.drew {w : World} {o m : Int} {ad : Option Addr} {len cap : Nat} {u : Value} {w' : World} (h : Two w o m ad len cap u w') : Two w o m ad len cap u w'.drew := Below.drew h
theorem Two.c1 {w : World} {o m : Int} {ad : Option Addr} {len cap : Nat} {u : Value} {w' : World} (h : Two w o m ad len cap u w') : w'.cell? ⟨w.heap.size, 1, none⟩ = some (.int .i64 m) := by
  have := (((P3.new w (.int .i64 o) (.int .i64 m) (.slice ad len cap)).below (below1 _ (.cells #[u] 20)))).c.2.1
  rw [← this]; exact Below.cell h (p := ⟨w.heap.size, 1, none⟩) (by show w.heap.size < w.heap.size + 2; omega)
theorem Two.c2 {w : World} {o m : Int} {ad : Option Addr} {len cap : Nat} {u : Value} {w' : World} (h : Two w o m ad len cap u w') : w'.cell? ⟨w.heap.size, 2, none⟩ = some (.slice ad len cap) := by
  have := (((P3.new w (.int .i64 o) (.int .i64 m) (.slice ad len cap)).below (below1 _ (.cells #[u] 20)))).c.2.2
  rw [← this]; exact Below.cell h (p := ⟨w.heap.size, 2, none⟩) (by show w.heap.size < w.heap.size + 2; omega)
theorem Two.cu {w : World} {o m : Int} {ad : Option Addr} {len cap : Nat} {u : Value} {w' : World} (h : Two w o m ad len cap u w') : w'.cell? ⟨w.heap.size + 1, 0, none⟩ = some u := by
  have : ((w.alloc (.cells #[.int .i64 o, .int .i64 m, .slice ad len cap] 43)).alloc (.cells #[u] 20)).cell? ⟨w.heap.size + 1, 0, none⟩ = some u := by
    have := heap_alloc_new (w.alloc (.cells #[.int .i64 o, .int .i64 m, .slice ad len cap] 43)) (.cells #[u] 20)
    rw [World.size_alloc] at this
    exact cell_of this
  rw [← this]; exact Below.cell h (p := ⟨w.heap.size + 1, 0, none⟩) (by show w.heap.size + 1 < w.heap.size + 2; omega)
theorem Two.below {w : World} {o m : Int} {ad : Option Addr} {len cap : Nat} {u : Value} {w' : World} (h : Two w o m ad len cap u w') : Below w.heap.size w w' := (below2 w _ _).trans (Below.mono h (by omega))
theorem Two.step {w : World} {o m : Int} {ad : Option Addr} {len cap : Nat} {u : Value} {w1 w2 : World} (h : Two w o m ad len cap u w1) (hb : Below w1.heap.size w1 w2) : Two w o m ad len cap u w2 := by
  have := Below.size h
  simp at this
  exact Below.trans h (hb.mono (by omega))
theorem Two.start (w : World) (o m : Int) (ad : Option Addr) (len cap : Nat) (u : Value) : Two w o m ad len cap u ((w.alloc (.cells #[.int .i64 o, .int .i64 m, .slice ad len cap] 43)).alloc (.cells #[u] 20)) := Below.refl _ _

set_option maxRecDepth 100000 in
set_option maxHeartbeats 2000000 in
theorem holds3_nil (m : Int) (ad : Option Addr) (len cap : Nat) (k : Int) (w : World) (hk : Kd k .nilIface) :
    Calls Tryz.prog 74 #[.agg #[.int .i64 3, .int .i64 m, .slice ad len cap], .nilIface] w fun e w' => e = .returned (.bool (impl k m)) ∧ Below w.heap.size w w' := by
  obtain ⟨F, ⟨hmm, hcf⟩, hA⟩ := face_asks m
  have HI : Hid (∀ wx, Two w 3 m ad len cap .nilIface wx → Calls Tryz.prog 87 #[.int .i64 m] wx fun e w' => e = .returned (.agg #[.iface (qfc m) (.agg #[]), .int .u8 (mbits m)]) ∧ Two w 3 m ad len cap .nilIface w') := fun wx hx => (interfaceOf_any m wx).mono fun e w' ⟨a, b⟩ => ⟨a, hx.step b⟩
  have HA : Hid (∀ wx, Two w 3 m ad len cap .nilIface wx → Calls Tryz.prog F #[.agg #[], .nilIface] wx fun e w' => e = .returned (.bool (impl k m)) ∧ Two w 3 m ad len cap .nilIface w') := fun wx hx => (hA k .nilIface wx hk).mono fun e w' ⟨a, b⟩ => ⟨a, hx.step b⟩
  have hb0 := Two.start w 3 m ad len cap .nilIface
  have hfd := fld0
  have HS : Hid (∀ wx, Two w 3 m ad len cap .nilIface wx → wx.cell? ⟨w.heap.size, 1, none⟩ = some (.int .i64 m) ∧ wx.cell? ⟨w.heap.size + 1, 0, none⟩ = some .nilIface) := fun wx h => ⟨h.c1, h.cu⟩
  clear hA hk
  generalize qfc m = Q at hmm HI
  go_enter Tryz.func74, Tryz.ntmps74
  go_wp2_with fail
  go_region_held3 (fun w' => w'.cell? ⟨w.heap.size, 1, none⟩ = some (.int .i64 m) ∧ w'.cell? ⟨w.heap.size + 1, 0, none⟩ = some .nilIface) (exact HS.out _ (by first | assumption | exact Two.drew (by assumption))) (first | (go_at_call 87; refine (HI.out _ (by first | assumption | exact Two.drew (by assumption))).mono ?_; rintro e wa ⟨rfl, ba⟩) | (refine (HA.out _ (by first | assumption | exact Two.drew (by assumption))).mono ?_; rintro e wa ⟨rfl, ba⟩))
  all_goals go_wp2
  all_goals go_ret
  all_goals exact ⟨rfl, Two.below (by first | assumption | exact Two.drew (by assumption))⟩

set_option maxRecDepth 100000 in
set_option maxHeartbeats 2000000 in
theorem holds3_val (m : Int) (ad : Option Addr) (len cap : Nat) (k : Int) (T : TypeId) (z : Value) (w : World) (hk : Kd k (.iface T z)) :
    Calls Tryz.prog 74 #[.agg #[.int .i64 3, .int .i64 m, .slice ad len cap], (.iface T z)] w fun e w' => e = .returned (.bool (impl k m)) ∧ Below w.heap.size w w' := by
  obtain ⟨F, ⟨hmm, hcf⟩, hA⟩ := face_asks m
  have HI : Hid (∀ wx, Two w 3 m ad len cap (.iface T z) wx → Calls Tryz.prog 87 #[.int .i64 m] wx fun e w' => e = .returned (.agg #[.iface (qfc m) (.agg #[]), .int .u8 (mbits m)]) ∧ Two w 3 m ad len cap (.iface T z) w') := fun wx hx => (interfaceOf_any m wx).mono fun e w' ⟨a, b⟩ => ⟨a, hx.step b⟩
  have HA : Hid (∀ wx, Two w 3 m ad len cap (.iface T z) wx → Calls Tryz.prog F #[.agg #[], (.iface T z)] wx fun e w' => e = .returned (.bool (impl k m)) ∧ Two w 3 m ad len cap (.iface T z) w') := fun wx hx => (hA k (.iface T z) wx hk).mono fun e w' ⟨a, b⟩ => ⟨a, hx.step b⟩
  have hb0 := Two.start w 3 m ad len cap (.iface T z)
  have hfd := fld0
  have HS : Hid (∀ wx, Two w 3 m ad len cap (.iface T z) wx → wx.cell? ⟨w.heap.size, 1, none⟩ = some (.int .i64 m) ∧ wx.cell? ⟨w.heap.size + 1, 0, none⟩ = some (.iface T z)) := fun wx h => ⟨h.c1, h.cu⟩
  clear hA hk
  generalize qfc m = Q at hmm HI
  go_enter Tryz.func74, Tryz.ntmps74
  go_wp2_with fail
  go_region_held3 (fun w' => w'.cell? ⟨w.heap.size, 1, none⟩ = some (.int .i64 m) ∧ w'.cell? ⟨w.heap.size + 1, 0, none⟩ = some (.iface T z)) (exact HS.out _ (by first | assumption | exact Two.drew (by assumption))) (first | (go_at_call 87; refine (HI.out _ (by first | assumption | exact Two.drew (by assumption))).mono ?_; rintro e wa ⟨rfl, ba⟩) | (refine (HA.out _ (by first | assumption | exact Two.drew (by assumption))).mono ?_; rintro e wa ⟨rfl, ba⟩))
  all_goals go_wp2
  all_goals go_ret
  all_goals exact ⟨rfl, Two.below (by first | assumption | exact Two.drew (by assumption))⟩

theorem holds3 (m : Int) (ad : Option Addr) (len cap : Nat) (k : Int) (u : Value) (w : World) (hk : Kd k u) :
    Calls Tryz.prog 74 #[.agg #[.int .i64 3, .int .i64 m, .slice ad len cap], u] w fun e w' => e = .returned (.bool (impl k m)) ∧ Below w.heap.size w w' := by
  rcases hk.sx with rfl | ⟨T, z, rfl⟩
  · exact holds3_nil m ad len cap k w hk
  · exact holds3_val m ad len cap k T z w hk

set_option maxRecDepth 100000 in
set_option maxHeartbeats 2000000 in
theorem holds2n_nil (m : Int) (hm : (m == 0) = false) (ad : Option Addr) (len cap : Nat) (k : Int) (w : World) (hk : Kd k .nilIface) :
    Calls Tryz.prog 74 #[.agg #[.int .i64 2, .int .i64 m, .slice ad len cap], .nilIface] w fun e w' => e = .returned (.bool (tkd m k)) ∧ Below w.heap.size w w' := by
  obtain ⟨F, ⟨hmm, hcf⟩, hA⟩ := type_asks m
  have HI : Hid (∀ wx, Two w 2 m ad len cap .nilIface wx → Calls Tryz.prog 86 #[.int .i64 m] wx fun e w' => e = .returned (.iface (qty m) (.agg #[])) ∧ Two w 2 m ad len cap .nilIface w') := fun wx hx => (typeOf_any m wx).mono fun e w' ⟨a, b⟩ => ⟨a, b ▸ hx⟩
  have HA : Hid (∀ wx, Two w 2 m ad len cap .nilIface wx → Calls Tryz.prog F #[.agg #[], .nilIface] wx fun e w' => e = .returned (.bool (tkd m k)) ∧ Two w 2 m ad len cap .nilIface w') := fun wx hx => (hA k .nilIface wx hk).mono fun e w' ⟨a, b⟩ => ⟨a, hx.step b⟩
  have hb0 := Two.start w 2 m ad len cap .nilIface
  have HS : Hid (∀ wx, Two w 2 m ad len cap .nilIface wx → wx.cell? ⟨w.heap.size, 1, none⟩ = some (.int .i64 m) ∧ wx.cell? ⟨w.heap.size + 1, 0, none⟩ = some .nilIface) := fun wx h => ⟨h.c1, h.cu⟩
  clear hA hk
  generalize qty m = Q at hmm HI
  go_enter Tryz.func74, Tryz.ntmps74
  go_wp2_with fail
  go_region_with (first | (go_at_call 86; refine (HI.out _ (by first | assumption | exact Two.drew (by assumption))).mono ?_; rintro e wa ⟨rfl, ba⟩; obtain ⟨c1, cu⟩ := HS.out _ ba) | (refine (HA.out _ (by first | assumption | exact Two.drew (by assumption))).mono ?_; rintro e wa ⟨rfl, ba⟩))
  all_goals go_wp2
  all_goals go_ret
  all_goals exact ⟨rfl, Two.below (by first | assumption | exact Two.drew (by assumption))⟩
set_option maxRecDepth 100000 in
set_option maxHeartbeats 2000000 in
theorem holds2n_val (m : Int) (hm : (m == 0) = false) (ad : Option Addr) (len cap : Nat) (k : Int) (T : TypeId) (z : Value) (w : World) (hk : Kd k (.iface T z)) :
    Calls Tryz.prog 74 #[.agg #[.int .i64 2, .int .i64 m, .slice ad len cap], (.iface T z)] w fun e w' => e = .returned (.bool (tkd m k)) ∧ Below w.heap.size w w' := by
  obtain ⟨F, ⟨hmm, hcf⟩, hA⟩ := type_asks m
  have HI : Hid (∀ wx, Two w 2 m ad len cap (.iface T z) wx → Calls Tryz.prog 86 #[.int .i64 m] wx fun e w' => e = .returned (.iface (qty m) (.agg #[])) ∧ Two w 2 m ad len cap (.iface T z) w') := fun wx hx => (typeOf_any m wx).mono fun e w' ⟨a, b⟩ => ⟨a, b ▸ hx⟩
  have HA : Hid (∀ wx, Two w 2 m ad len cap (.iface T z) wx → Calls Tryz.prog F #[.agg #[], (.iface T z)] wx fun e w' => e = .returned (.bool (tkd m k)) ∧ Two w 2 m ad len cap (.iface T z) w') := fun wx hx => (hA k (.iface T z) wx hk).mono fun e w' ⟨a, b⟩ => ⟨a, hx.step b⟩
  have hb0 := Two.start w 2 m ad len cap (.iface T z)
  have HS : Hid (∀ wx, Two w 2 m ad len cap (.iface T z) wx → wx.cell? ⟨w.heap.size, 1, none⟩ = some (.int .i64 m) ∧ wx.cell? ⟨w.heap.size + 1, 0, none⟩ = some (.iface T z)) := fun wx h => ⟨h.c1, h.cu⟩
  clear hA hk
  generalize qty m = Q at hmm HI
  go_enter Tryz.func74, Tryz.ntmps74
  go_wp2_with fail
  go_region_with (first | (go_at_call 86; refine (HI.out _ (by first | assumption | exact Two.drew (by assumption))).mono ?_; rintro e wa ⟨rfl, ba⟩; obtain ⟨c1, cu⟩ := HS.out _ ba) | (refine (HA.out _ (by first | assumption | exact Two.drew (by assumption))).mono ?_; rintro e wa ⟨rfl, ba⟩))
  all_goals go_wp2
  all_goals go_ret
  all_goals exact ⟨rfl, Two.below (by first | assumption | exact Two.drew (by assumption))⟩
theorem holds2n (m : Int) (hm : (m == 0) = false) (ad : Option Addr) (len cap : Nat) (k : Int) (u : Value) (w : World) (hk : Kd k u) :
    Calls Tryz.prog 74 #[.agg #[.int .i64 2, .int .i64 m, .slice ad len cap], u] w fun e w' => e = .returned (.bool (tkd m k)) ∧ Below w.heap.size w w' := by
  rcases hk.sx with rfl | ⟨T, z, rfl⟩
  · exact holds2n_nil m hm ad len cap k w hk
  · exact holds2n_val m hm ad len cap k T z w hk

set_option maxRecDepth 100000 in
set_option maxHeartbeats 2000000 in
theorem holds20_val (ad : Option Addr) (len cap : Nat) (k : Int) (T : TypeId) (z : Value) (w : World) (hk : Kd k (.iface T z)) :
    Calls Tryz.prog 74 #[.agg #[.int .i64 2, .int .i64 0, .slice ad len cap], (.iface T z)] w fun e w' => e = .returned (.bool (tkd 0 k)) ∧ Below w.heap.size w w' := by
  obtain ⟨F, ⟨hmm, hcf⟩, hA⟩ := type_asks 0
  have HI : Hid (∀ wx, Two w 2 0 ad len cap (.iface T z) wx → Calls Tryz.prog 86 #[.int .i64 0] wx fun e w' => e = .returned (.iface (qty 0) (.agg #[])) ∧ Two w 2 0 ad len cap (.iface T z) w') := fun wx hx => (typeOf_any 0 wx).mono fun e w' ⟨a, b⟩ => ⟨a, b ▸ hx⟩
  have HA : Hid (∀ wx, Two w 2 0 ad len cap (.iface T z) wx → Calls Tryz.prog F #[.agg #[], (.iface T z)] wx fun e w' => e = .returned (.bool (tkd 0 k)) ∧ Two w 2 0 ad len cap (.iface T z) w') := fun wx hx => (hA k (.iface T z) wx hk).mono fun e w' ⟨a, b⟩ => ⟨a, hx.step b⟩
  have hb0 := Two.start w 2 0 ad len cap (.iface T z)
  have HS : Hid (∀ wx, Two w 2 0 ad len cap (.iface T z) wx → wx.cell? ⟨w.heap.size, 1, none⟩ = some (.int .i64 0) ∧ wx.cell? ⟨w.heap.size + 1, 0, none⟩ = some (.iface T z)) := fun wx h => ⟨h.c1, h.cu⟩
  clear hA hk
  generalize qty 0 = Q at hmm HI
  go_enter Tryz.func74, Tryz.ntmps74
  go_wp2_with fail
  go_region_with (first | (go_at_call 86; refine (HI.out _ (by first | assumption | exact Two.drew (by assumption))).mono ?_; rintro e wa ⟨rfl, ba⟩; obtain ⟨c1, cu⟩ := HS.out _ ba) | (refine (HA.out _ (by first | assumption | exact Two.drew (by assumption))).mono ?_; rintro e wa ⟨rfl, ba⟩))
  all_goals go_wp2
  all_goals go_ret
  all_goals exact ⟨rfl, Two.below (by first | assumption | exact Two.drew (by assumption))⟩
end Go.Proofs.YtkgbpildikjoiaaGreatDoor
