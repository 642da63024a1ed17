/- The kind of what a map gives, and the law ShapeKinds; the conditions: the value in memory, its numbers within 64 bits, the package's table as it is laid, and that a key has some name. -/
import Derived.Test.YtajagjcfmaggiaaGreatDoorKCec
import Derived.Test.YtajagjcfmaggiaaGreatDoorKCef
import Derived.Handed
import Derived.Shelf.Vars
import Derived.Test.YtajagjcfmaggiaaGreatDoorKCdf
import Derived.ProofKit
import Derived.OpenShut
import Derived.Test.YtajagjcfmaggiaaGreatDoorKCag
import Derived.Test.YtajagjcfmaggiaaGreatDoorKCbb
namespace Go.Proofs.YtajagjcfmaggiaaGreatDoor
open Go.RowKit

def kdR (r : Rs) : Int := match r with
  | ⟨_, _, _, _, 0, t⟩ => Empty.elim t
  | ⟨_, _, _, _, _ + 1, t⟩ => Dt.Tr.kd t
/-- The kind is one of those that may come. -/
def KB (op k κ : Int) : Prop := kiP op k ≠ 0 ∧ bits .and .u32 (((kiP op k : Nat) : Int) / 2 ^ κ.toNat) 1 = 1
theorem kb1 {k : Int} (h : 0 ≤ k ∧ k ≤ 13) (hi : impl k 5 = true) : KB 1 k k := by
  rw [impl5 h] at hi
  rcases of_decide_eq_true hi with rfl | rfl <;> exact ⟨by decide, by decide⟩
theorem kb3 {κ : Int} (h : 0 ≤ κ ∧ κ ≤ 13) : KB 3 11 κ := by
  rcases kind_cases h with rfl | rfl | rfl | rfl | rfl | rfl | rfl | rfl | rfl | rfl | rfl | rfl | rfl | rfl <;> exact ⟨by decide, by decide⟩
theorem kb4 {k : Int} {z l : Nat} (h : 0 ≤ k ∧ k ≤ 13) (hl : (Dt.lenP k z l).2 = 0) : KB 4 k 1 := by
  rcases kind_cases h with rfl | rfl | rfl | rfl | rfl | rfl | rfl | rfl | rfl | rfl | rfl | rfl | rfl | rfl
  all_goals first | exact ⟨by decide, by decide⟩ | (exfalso; simp [Dt.lenP] at hl)
theorem kb5 {L : Lb} {k i : Int} {s : ByteArray} (h : 0 ≤ k ∧ k ≤ 13) (hl : (labL L k i s).2 = 0) : KB 5 k 4 := by
  rcases kind_cases h with rfl | rfl | rfl | rfl | rfl | rfl | rfl | rfl | rfl | rfl | rfl | rfl | rfl | rfl
  all_goals first | exact ⟨by decide, by decide⟩ | (exfalso; simp [labL] at hl)
theorem kb8 {k : Int} (h : 0 ≤ k ∧ k ≤ 13) : KB 8 k (kyK k) := by
  rcases kind_cases h with rfl | rfl | rfl | rfl | rfl | rfl | rfl | rfl | rfl | rfl | rfl | rfl | rfl | rfl <;> exact ⟨by decide, by decide⟩
theorem map_kind (L : Lb) (op : Int) (tp : ByteArray) {m : Nat} (t : Dt.Tr (m + 1)) (h : Ok (m + 1) t) : (mapP L op tp t).er ≠ 0 ∨ KB op t.kd (kdR (mapP L op tp t)) := by
  unfold mapP
  split
  · rename_i ho
    subst ho
    split
    · rename_i hi
      right
      have e := of_decide_eq_true ((impl5 h.kind).symm.trans hi)
      have hb := kb1 h.kind hi
      rcases e with e | e <;> (rw [e] at hb ⊢; exact hb)
    · left; show (110 : Int) ≠ 0; decide
  split
  · rename_i ho
    subst ho
    split
    · right; exact ⟨by simp [kiP], by show bits .and .u32 ((256 : Int) / 2 ^ 8) 1 = 1; decide⟩
    · left; show (14 : Int) ≠ 0; decide
  split
  · rename_i ho
    subst ho
    split
    · rename_i hk
      cases hks : t.ks with
      | nil => left; show (110 : Int) ≠ 0; decide
      | cons s l =>
        right
        rw [hk]
        cases m with
        | zero => exact Empty.elim s
        | succ m => exact kb3 (h.kid (s := s) (by rw [hks]; exact List.mem_cons_self ..)).kind
    · split
      · left; show (110 : Int) ≠ 0; decide
      · left; show (110 : Int) ≠ 0; decide
  split
  · rename_i ho
    subst ho
    split
    · rename_i hl
      right; exact kb4 h.kind hl
    · left; show (12 : Int) ≠ 0; decide
  split
  · rename_i ho
    subst ho
    split
    · rename_i hl
      right; exact kb5 h.kind hl
    · left; show (12 : Int) ≠ 0; decide
  split
  · rename_i ho
    subst ho
    split
    · rename_i hk
      right
      rw [hk]
      exact ⟨by decide, by show bits .and .u32 ((64 : Int) / 2 ^ 6) 1 = 1; decide⟩
    · left; show (110 : Int) ≠ 0; decide
  split
  · rename_i ho
    subst ho
    split
    · right; exact ⟨by simp [kiP], by show bits .and .u32 ((512 : Int) / 2 ^ 9) 1 = 1; decide⟩
    · left; show (14 : Int) ≠ 0; decide
  split
  · rename_i ho
    subst ho
    right
    exact kb8 h.kind
  · left; show (12 : Int) ≠ 0; decide
theorem cB_one : ∀ q, q < 14 → ∀ j, j < 14 → cB ((2 ^ q : Nat) : Int) j = decide (j = q) := by decide +kernel
theorem kin_to (op : Int) {q : Nat} (h : q < 14) : ∀ j : Nat, j ≤ 14 → kin op ((2 ^ q : Nat) : Int) j = if q < j then kiP op q else 0
  | 0, _ => by simp [kin]
  | j + 1, hj => by
    have ih := kin_to op h j (by omega)
    simp only [kin]
    rw [cB_one q h j (by omega), ih]
    by_cases e : j = q
    · subst e
      rw [if_pos (by simp), if_neg (by omega), if_pos (by omega)]
      simp
    · rw [if_neg (by simpa using e)]
      by_cases l : q < j
      · rw [if_pos l, if_pos (by omega)]
      · rw [if_neg l, if_neg (by omega)]
theorem two_mod {q : Nat} (h : q < 14) : ((2 : Int) ^ q % 4294967296) = ((2 ^ q : Nat) : Int) := by
  have : q = 0 ∨ q = 1 ∨ q = 2 ∨ q = 3 ∨ q = 4 ∨ q = 5 ∨ q = 6 ∨ q = 7 ∨ q = 8 ∨ q = 9 ∨ q = 10 ∨ q = 11 ∨ q = 12 ∨ q = 13 := by omega
  rcases this with rfl | rfl | rfl | rfl | rfl | rfl | rfl | rfl | rfl | rfl | rfl | rfl | rfl | rfl <;> decide
theorem kin_one (op : Int) {q : Nat} (h : q < 14) : kin op ((2 ^ q : Nat) : Int) 14 = kiP op q := by rw [kin_to op h 14 (by omega), if_pos h]

set_option maxRecDepth 100000 in
set_option maxHeartbeats 4000000 in
theorem law_kinds (op K : Int) (k i u : Int) (s : ByteArray) (a : Option Addr) (n c : Nat) {m : Nat} (t : Dt.Tr m) (r6 : Dt.r64 m t) (i6 : i64A m t) (w : World) (hr : Dt.Rep w m [.int .i64 k, .int .i64 i, .int .u64 u, .string s, .slice a n c] t) (hT : Dt.Tab14 w) (hN : Tb20 w) :
    Calls Tryz.prog 6 #[.int .i64 op, .int .u32 K, .agg #[.int .i64 k, .int .i64 i, .int .u64 u, .string s, .slice a n c]] w fun e w' => e = .returned (.bool true) ∧ Below w.heap.size w w' := by
  have B0 := below1 w (.cells #[.int .i64 k, .int .i64 i, .int .u64 u, .string s, .slice a n c] 25)
  have D0 := Bk.new w #[.int .i64 k, .int .i64 i, .int .u64 u, .string s, .slice a n c] 25
  obtain ⟨X, hX⟩ : ∃ X, kin op K 14 = X := ⟨_, rfl⟩
  have HK1 : Hid (∀ wx, Below w.heap.size w wx → Calls Tryz.prog 19 #[.int .i64 op, .int .u32 K] wx fun e w' => e = .returned (.int .u32 (X : Int)) ∧ Below wx.heap.size wx w') := fun wx _ => hX ▸ kinds17_any op K wx
  have HK2 : Hid (∀ wx, Below w.heap.size w wx → Calls Tryz.prog 20 #[.int .i64 op, .int .u32 K] wx fun e w' => e = .returned (.int .u32 (X : Int)) ∧ Below wx.heap.size wx w') := fun wx _ => hX ▸ rkinds17_any op K wx
  have HV := Lib.hid (fun wx (hx : Below w.heap.size w wx) => Dt.refValid m t _ _ _ _ _ wx (Dt.Rep.below hx _ _ _ hr))
  have KA := Lib.hid (fun wx (hx : Below w.heap.size w wx) => awake_any wx (hT.below hx))
  clear hX
  cases hv : Dt.vB m t with
  | false =>
    rw [hv] at HV
    clear hr hT hN r6 i6 hv
    go_enter Tryz.func6, Tryz.ntmps6
    go_wp2_with fail
    refine (HK1.out _ B0).mono ?_
    rintro e wa ⟨rfl, ba⟩
    have Ba := B0.trans (ba.mono B0.size)
    have Da := D0.step ba
    go_wp2_with fail
    refine (HK2.out _ Ba).mono ?_
    rintro e wb ⟨rfl, bb⟩
    have Bb := Ba.trans (bb.mono Ba.size)
    have Db := Da.step bb
    obtain ⟨d0, d1, d2, d3, d4⟩ := Db.c5
    go_wp2_with fail
    refine (HV.out _ Bb).mono ?_
    rintro e wc ⟨rfl, bc⟩
    have Bc := Bb.trans (bc.mono Bb.size)
    clear d0 d1 d2 d3 d4
    go_wp2_with fail
    refine (KA.out _ Bc).mono ?_
    rintro e wd ⟨rfl, bd⟩
    go_wp2
    go_ret
    exact ⟨rfl, Bc.trans (bd.mono Bc.size)⟩
  | true =>
  rw [hv] at HV
  cases m with
  | zero => exact Empty.elim t
  | succ m =>
  have ho : Ok (m + 1) t := ⟨hv, r6, i6⟩
  have ek : k = t.kd := (rz_kd (Rz.of_rep _ _ _ hr)).1
  obtain ⟨q, rfl⟩ : ∃ q : Nat, k = (q : Int) := ⟨k.toNat, by have := ho.kind; omega⟩
  have hq : q < 14 := by have := ho.kind; omega
  have HK3 : Hid (∀ wx, Below w.heap.size w wx → Calls Tryz.prog 19 #[.int .i64 op, .int .u32 (2 ^ q % 4294967296)] wx fun e w' => e = .returned (.int .u32 ((kiP op q : Nat) : Int)) ∧ Below wx.heap.size wx w') := fun wx _ => by
    rw [two_mod hq]
    exact kin_one op hq ▸ kinds17_any op ((2 ^ q : Nat) : Int) wx
  have j0 : (0 : Int) ≤ (q : Int) := by omega
  have j1 : (q : Int) ≤ 32 := by omega
  by_cases hop : op = 5 ∧ t.kd = 2
  · obtain ⟨rfl, h2⟩ := hop
    have HS := Lib.hid (fun wx (hx : Below w.heap.size w wx) => smap_some ⟨#[116]⟩ q i u s a n c t ho wx (Dt.Rep.below hx _ _ _ hr) h2 (hN.below hx))
    obtain rfl : q = 2 := by omega
    obtain ⟨κ, hκ⟩ : ∃ κ : Nat, (4 : Int) = (κ : Int) := ⟨4, rfl⟩
    have hκ14 : κ < 14 := by omega
    have hkb2 : KB 5 2 κ := by rw [← hκ]; exact ⟨by decide, by decide⟩
    obtain ⟨hz, hbit⟩ := hkb2
    clear ho ek hr hT hN r6 i6 hv h2
    obtain ⟨Y, hY⟩ : ∃ Y, kiP 5 2 = Y := ⟨_, rfl⟩
    have HK3' : Hid (∀ wx, Below w.heap.size w wx → Calls Tryz.prog 19 #[.int .i64 5, .int .u32 4] wx fun e w' => e = .returned (.int .u32 (Y : Int)) ∧ Below wx.heap.size wx w') := fun wx hx => by
      have h := HK3.out wx hx
      have e : kiP 5 ((2 : Nat) : Int) = Y := hY
      rw [e] at h
      exact h
    rw [hY] at hz hbit
    clear hY HK3
    have HK3 := HK3'
    clear HK3'
    have hz' : ((Y : Int) == 0) = false := by simpa using hz
    have hbit' : bits .and .u32 ((Y : Int) / 2 ^ κ) 1 = 1 := by simpa using hbit
    have l0 : (0 : Int) ≤ (κ : Int) := by omega
    have l1 : (κ : Int) ≤ 32 := by omega
    clear hz hbit
    have HM' : Hid (∀ wx, Below w.heap.size w wx → Calls Tryz.prog 10 #[.int .i64 5, .string ⟨#[116]⟩, .agg #[.int .i64 2, .int .i64 i, .int .u64 u, .string s, .slice a n c]] wx fun e w' => ∃ y1 y2 y3 y4 y5 y6, e = .returned (.agg (rcs 0 0 0 0 true (κ : Int) y1 y2 y3 y4 y5 y6)) ∧ Below wx.heap.size wx w') := fun wx hx => (HS.out wx hx).mono fun e w' ⟨r9, _, h⟩ => by
      obtain ⟨y0, y1, y2, y3, y4, y5, y6, he, rf, hb⟩ := h
      obtain ⟨e1, -⟩ := rz_kd (Rz.of_rf _ _ _ rf)
      obtain rfl : y0 = (κ : Int) := e1.trans hκ
      exact ⟨y1, y2, y3, y4, y5, y6, he, hb⟩
    clear HS hκ
    go_enter Tryz.func6, Tryz.ntmps6
    go_wp2_with fail
    refine (HK1.out _ B0).mono ?_
    rintro e wa ⟨rfl, ba⟩
    have Ba := B0.trans (ba.mono B0.size)
    have Da := D0.step ba
    go_wp2_with fail
    refine (HK2.out _ Ba).mono ?_
    rintro e wb ⟨rfl, bb⟩
    have Bb := Ba.trans (bb.mono Ba.size)
    have Db := Da.step bb
    obtain ⟨d0, d1, d2, d3, d4⟩ := Db.c5
    clear ba bb Da D0
    go_wp2_with fail
    clear d0 d1 d2 d3 d4
    refine (HV.out _ Bb).mono ?_
    rintro e wc ⟨rfl, bc⟩
    have Bc := Bb.trans (bc.mono Bb.size)
    have Dc := Db.step bc
    obtain ⟨d0, d1, d2, d3, d4⟩ := Dc.c5
    clear bc Db
    go_wp2_with fail
    clear d0 d1 d2 d3 d4
    refine (HK3.out _ Bc).mono ?_
    rintro e wd ⟨rfl, bd⟩
    have Bd := Bc.trans (bd.mono Bc.size)
    have Dd := Dc.step bd
    obtain ⟨d0, d1, d2, d3, d4⟩ := Dd.c5
    clear bd Dc
    go_wp2_with fail
    clear d0 d1 d2 d3 d4
    refine (HM'.out _ Bd).mono ?_
    rintro e we ⟨y1, y2, y3, y4, y5, y6, rfl, be⟩
    have Be := Bd.trans (be.mono Bd.size)
    have Bf := Be.trans ((below1 we (.cells (rcs 0 0 0 0 true (κ : Int) y1 y2 y3 y4 y5 y6) 33)).mono Be.size)
    clear be Dd
    go_wp2_with fail
    refine (KA.out _ Bf).mono ?_
    rintro e wg ⟨rfl, bg⟩
    go_wp2
    go_ret
    exact ⟨rfl, Bf.trans (bg.mono Bf.size)⟩
  have HM := Lib.hid (fun wx (hx : Below w.heap.size w wx) => smap_any keyL op ⟨#[116]⟩ (by decide) q i u s a n c t ho wx (Dt.Rep.below hx _ _ _ hr) (hT.below hx) (fun e1 e2 => absurd ⟨e1, e2⟩ hop))
  have hkb := map_kind keyL op ⟨#[116]⟩ t ho
  clear hr hT hN r6 i6 hv hop
  rcases map_cases keyL op ⟨#[116]⟩ t ho with ⟨m', t', ht', ho'⟩ | ⟨er, pk, pn, her, ht'⟩
  · obtain ⟨κ, hκ⟩ : ∃ κ : Nat, t'.kd = (κ : Int) := ⟨t'.kd.toNat, by have := ho'.kind; omega⟩
    have hκ14 : κ < 14 := by have := ho'.kind; omega
    rw [ht'] at hkb
    have hkb2 : KB op q κ := by
      rcases hkb with h | h
      · exact absurd rfl h
      · rw [ek, ← hκ]; exact h
    obtain ⟨hz, hbit⟩ := hkb2
    clear hkb ho ek
    obtain ⟨Y, hY⟩ : ∃ Y, kiP op q = Y := ⟨_, rfl⟩
    rw [hY] at hz hbit HK3
    clear hY
    have hz' : ((Y : Int) == 0) = false := by simpa using hz
    have hbit' : bits .and .u32 ((Y : Int) / 2 ^ κ) 1 = 1 := by simpa using hbit
    have l0 : (0 : Int) ≤ (κ : Int) := by omega
    have l1 : (κ : Int) ≤ 32 := by omega
    clear hz hbit
    have HM' : Hid (∀ wx, Below w.heap.size w wx → Calls Tryz.prog 10 #[.int .i64 op, .string ⟨#[116]⟩, .agg #[.int .i64 (q : Int), .int .i64 i, .int .u64 u, .string s, .slice a n c]] wx fun e w' => ∃ y1 y2 y3 y4 y5 y6, e = .returned (.agg (rcs 0 0 0 0 true (κ : Int) y1 y2 y3 y4 y5 y6)) ∧ Below wx.heap.size wx w') := fun wx hx => (HM.out wx hx).mono fun e w' h => by
      rw [ht'] at h
      obtain ⟨y0, y1, y2, y3, y4, y5, y6, he, rf, hb⟩ := h
      obtain ⟨e1, -⟩ := rz_kd (Rz.of_rf _ _ _ rf)
      obtain rfl : y0 = (κ : Int) := e1.trans hκ
      exact ⟨y1, y2, y3, y4, y5, y6, he, hb⟩
    clear HM ht' hκ ho'
    go_enter Tryz.func6, Tryz.ntmps6
    go_wp2_with fail
    refine (HK1.out _ B0).mono ?_
    rintro e wa ⟨rfl, ba⟩
    have Ba := B0.trans (ba.mono B0.size)
    have Da := D0.step ba
    go_wp2_with fail
    refine (HK2.out _ Ba).mono ?_
    rintro e wb ⟨rfl, bb⟩
    have Bb := Ba.trans (bb.mono Ba.size)
    have Db := Da.step bb
    obtain ⟨d0, d1, d2, d3, d4⟩ := Db.c5
    clear ba bb Da D0
    go_wp2_with fail
    clear d0 d1 d2 d3 d4
    refine (HV.out _ Bb).mono ?_
    rintro e wc ⟨rfl, bc⟩
    have Bc := Bb.trans (bc.mono Bb.size)
    have Dc := Db.step bc
    obtain ⟨d0, d1, d2, d3, d4⟩ := Dc.c5
    clear bc Db
    go_wp2_with fail
    clear d0 d1 d2 d3 d4
    refine (HK3.out _ Bc).mono ?_
    rintro e wd ⟨rfl, bd⟩
    have Bd := Bc.trans (bd.mono Bc.size)
    have Dd := Dc.step bd
    obtain ⟨d0, d1, d2, d3, d4⟩ := Dd.c5
    clear bd Dc
    go_wp2_with fail
    clear d0 d1 d2 d3 d4
    refine (HM'.out _ Bd).mono ?_
    rintro e we ⟨y1, y2, y3, y4, y5, y6, rfl, be⟩
    have Be := Bd.trans (be.mono Bd.size)
    have Bf := Be.trans ((below1 we (.cells (rcs 0 0 0 0 true (κ : Int) y1 y2 y3 y4 y5 y6) 33)).mono Be.size)
    clear be Dd
    go_wp2_with fail
    refine (KA.out _ Bf).mono ?_
    rintro e wg ⟨rfl, bg⟩
    go_wp2
    go_ret
    exact ⟨rfl, Bf.trans (bg.mono Bf.size)⟩
  · clear hkb ho ek
    have her2 : ¬ er = 0 := by simpa using her
    have her3 : (er != 0) = true := by simpa using her
    obtain ⟨Y, hY⟩ : ∃ Y, kiP op q = Y := ⟨_, rfl⟩
    rw [hY] at HK3
    clear hY
    by_cases hz : Y = 0
    · subst hz
      have HM' : Hid (∀ wx, Below w.heap.size w wx → Calls Tryz.prog 10 #[.int .i64 op, .string ⟨#[116]⟩, .agg #[.int .i64 (q : Int), .int .i64 i, .int .u64 u, .string s, .slice a n c]] wx fun e w' => ∃ y0 y1 y2 y3 y4 y5 y6, e = .returned (.agg (rcs er 0 pk pn false y0 y1 y2 y3 y4 y5 y6)) ∧ Below wx.heap.size wx w') := fun wx hx => (HM.out wx hx).mono fun e w' h => by
        rw [ht'] at h
        obtain ⟨y0, y1, y2, y3, y4, y5, y6, he, rf, hb⟩ := h
        exact ⟨y0, y1, y2, y3, y4, y5, y6, he, hb⟩
      clear HM ht'
      go_enter Tryz.func6, Tryz.ntmps6
      go_wp2_with fail
      refine (HK1.out _ B0).mono ?_
      rintro e wa ⟨rfl, ba⟩
      have Ba := B0.trans (ba.mono B0.size)
      have Da := D0.step ba
      go_wp2_with fail
      refine (HK2.out _ Ba).mono ?_
      rintro e wb ⟨rfl, bb⟩
      have Bb := Ba.trans (bb.mono Ba.size)
      have Db := Da.step bb
      obtain ⟨d0, d1, d2, d3, d4⟩ := Db.c5
      clear ba bb Da D0
      go_wp2_with fail
      clear d0 d1 d2 d3 d4
      refine (HV.out _ Bb).mono ?_
      rintro e wc ⟨rfl, bc⟩
      have Bc := Bb.trans (bc.mono Bb.size)
      have Dc := Db.step bc
      obtain ⟨d0, d1, d2, d3, d4⟩ := Dc.c5
      clear bc Db
      go_wp2_with fail
      clear d0 d1 d2 d3 d4
      refine (HK3.out _ Bc).mono ?_
      rintro e wd ⟨rfl, bd⟩
      have Bd := Bc.trans (bd.mono Bc.size)
      have Dd := Dc.step bd
      obtain ⟨d0, d1, d2, d3, d4⟩ := Dd.c5
      clear bd Dc
      go_wp2_with fail
      clear d0 d1 d2 d3 d4
      refine (HM'.out _ Bd).mono ?_
      rintro e we ⟨y0, y1, y2, y3, y4, y5, y6, rfl, be⟩
      have Be := Bd.trans (be.mono Bd.size)
      have Bf := Be.trans ((below1 we (.cells (rcs er 0 pk pn false y0 y1 y2 y3 y4 y5 y6) 33)).mono Be.size)
      clear be Dd
      go_wp2_with fail
      refine (KA.out _ Bf).mono ?_
      rintro e wg ⟨rfl, bg⟩
      go_wp2
      go_ret
      exact ⟨rfl, Bf.trans (bg.mono Bf.size)⟩
    · have hz' : ((Y : Int) == 0) = false := by simpa using hz
      clear hz
      have HM' : Hid (∀ wx, Below w.heap.size w wx → Calls Tryz.prog 10 #[.int .i64 op, .string ⟨#[116]⟩, .agg #[.int .i64 (q : Int), .int .i64 i, .int .u64 u, .string s, .slice a n c]] wx fun e w' => ∃ y0 y1 y2 y3 y4 y5 y6, e = .returned (.agg (rcs er 0 pk pn false y0 y1 y2 y3 y4 y5 y6)) ∧ Below wx.heap.size wx w') := fun wx hx => (HM.out wx hx).mono fun e w' h => by
        rw [ht'] at h
        obtain ⟨y0, y1, y2, y3, y4, y5, y6, he, rf, hb⟩ := h
        exact ⟨y0, y1, y2, y3, y4, y5, y6, he, hb⟩
      clear HM ht'
      go_enter Tryz.func6, Tryz.ntmps6
      go_wp2_with fail
      refine (HK1.out _ B0).mono ?_
      rintro e wa ⟨rfl, ba⟩
      have Ba := B0.trans (ba.mono B0.size)
      have Da := D0.step ba
      go_wp2_with fail
      refine (HK2.out _ Ba).mono ?_
      rintro e wb ⟨rfl, bb⟩
      have Bb := Ba.trans (bb.mono Ba.size)
      have Db := Da.step bb
      obtain ⟨d0, d1, d2, d3, d4⟩ := Db.c5
      clear ba bb Da D0
      go_wp2_with fail
      clear d0 d1 d2 d3 d4
      refine (HV.out _ Bb).mono ?_
      rintro e wc ⟨rfl, bc⟩
      have Bc := Bb.trans (bc.mono Bb.size)
      have Dc := Db.step bc
      obtain ⟨d0, d1, d2, d3, d4⟩ := Dc.c5
      clear bc Db
      go_wp2_with fail
      clear d0 d1 d2 d3 d4
      refine (HK3.out _ Bc).mono ?_
      rintro e wd ⟨rfl, bd⟩
      have Bd := Bc.trans (bd.mono Bc.size)
      have Dd := Dc.step bd
      obtain ⟨d0, d1, d2, d3, d4⟩ := Dd.c5
      clear bd Dc
      go_wp2_with fail
      clear d0 d1 d2 d3 d4
      refine (HM'.out _ Bd).mono ?_
      rintro e we ⟨y0, y1, y2, y3, y4, y5, y6, rfl, be⟩
      have Be := Bd.trans (be.mono Bd.size)
      have Bf := Be.trans ((below1 we (.cells (rcs er 0 pk pn false y0 y1 y2 y3 y4 y5 y6) 33)).mono Be.size)
      clear be Dd
      go_wp2_with fail
      refine (KA.out _ Bf).mono ?_
      rintro e wg ⟨rfl, bg⟩
      go_wp2
      go_ret
      exact ⟨rfl, Bf.trans (bg.mono Bf.size)⟩

end Go.Proofs.YtajagjcfmaggiaaGreatDoor
/- What a world's shape tells: strconv's table of powers holds twenty numbers; and a row's wrap that keeps that shape; the conditions: the world's shape. -/
namespace Go.Proofs.YtajagjcfmaggiaaGreatDoor
open Go.RowKit

set_option maxRecDepth 100000 in
theorem pow_shaped {w : World} (h : w.ShapedOpen Tryz.prog) : 1 < w.heap.size ∧ ∀ j, j < 20 → ∃ x : Int, w.cell? ⟨1, j, none⟩ = some (.int .u64 x) := by
  obtain ⟨cs, hh, hs, hr⟩ := h.1 1 (Array.replicate 20 (.int .u64 0)) 178 (of_decide_eq_true (by kernel_rfl)) (by kernel_rfl)
  obtain ⟨ts, hts, _, hall⟩ := hr (by kernel_rfl)
  have hc : Tryz.prog.cellTypes Tryz.prog.depth 178 = some (List.replicate 20 22) := by kernel_rfl
  rw [hc] at hts
  cases hts
  have h20 : cs.size = 20 := by rw [hs]; rfl
  refine ⟨(Array.getElem?_eq_some_iff.mp hh).1, fun j hj => ?_⟩
  have h1 : j < cs.size := by omega
  obtain ⟨u, hu', hok⟩ := hall j cs[j] (by simp [h1])
  have e : u = 22 := by
    rw [List.length_replicate, Nat.mod_eq_of_lt hj, List.getElem?_replicate_of_lt hj] at hu'
    exact (Option.some.inj hu').symm
  subst e
  have hcell : w.cell? ⟨1, j, none⟩ = some cs[j] := by simp [World.cell?, hh, h1]
  rw [hcell]
  unfold Cell.ok at hok
  rw [Tryz.underlying22] at hok
  cases hv : cs[j] <;> rw [hv] at hok <;> simp at hok
  case int k' n => exact ⟨n, by rw [hok.1]⟩

theorem wrap_shaped {H : Type} {enc : TypeId × Value → H} {C : Checked} {os : Os} {f : FuncId} {fn : Func} {s : ChangeSpec} {conds : List PathCond} {ap fr ho ag : Bool} {X : World → Array Value → Prop}
    (hX : ∀ (w w' : World) (args : Array Value), w.heap = w'.heap → X w args → X w' args)
    (own : ownKnob C.prog.godebug = none) (started : os.Started) (noInit : C.prog.inits.idxOf? f = none) (hfn : C.prog.funcs[f]? = some fn)
    (wit : ∃ (w : World) (tape : Tape) (i : Input), w.os = os ∧ (w.forCall tape i).Shaped C.prog ∧ i.vars = [] ∧ Input.okWide C.prog (w.forCall tape i) .any w.heap.size f i ∧
      ((s.pre enc C.prog fn conds ap (w.forCall tape i).memory i.args ∧ X (w.forCall tape i).memory i.args) ∧ sizedMet enc C.prog fn (OpenSpec.ofChange s) ap (w.forCall tape i).memory i.args) ∧ ({} : Assume).holds C.prog (lone (Frame.enter C.prog f i.args .normal) [] (w.forCall tape i)))
    (con : ∀ (W : World) (base : Nat) (args : Array Value) (ds gs : List (DataW H)) (bf : List MemPlace), W.ShapedOpen C.prog →
      (∀ (j : Nat) t v, fn.params[j]? = some t → args[j]? = some v → Value.okWide C.prog W .any base t v) →
      DataW.Whole enc C.prog fn.params.toList s.vars ap W args.toList ds gs bf →
      conds.all (PathCond.test C.prog ⟨fn.params.toList, ds, s.plain.varTypes C.prog, gs⟩) = true →
      (DataW.weightsEach C.prog (fn.params.toList ++ s.plain.varTypes C.prog) (ds ++ gs)).all (· ≤ reachBytes) = true → X W args →
      ({} : Assume).holds C.prog (lone (Frame.enter C.prog f args .normal) [] W) →
      Calls C.prog f args W fun e W' => ∃ v, e = .returned v ∧ s.post enc C.prog fn ap fr ho ag W args v W') :
    ReturnsInHanded {} C os f .any (fun w args => (s.pre enc C.prog fn conds ap w args ∧ X w args) ∧ sizedMet enc C.prog fn (OpenSpec.ofChange s) ap w args) (s.post enc C.prog fn ap fr ho ag) := by
  refine returnsInHanded_of_calls own started noInit wit fun w tape i _ hsh _ hok hp hh => ?_
  obtain ⟨_, _, _, fn', hf', _, _, _, _, hval⟩ := hok
  obtain rfl : fn' = fn := Option.some.inj (hf'.symm.trans hfn)
  obtain ⟨⟨⟨ds, gs, bf, hw, hc⟩, hx⟩, hz⟩ := hp
  refine (con (w.forCall tape i) w.heap.size i.args ds gs bf hsh hval (DataW.Whole.of_heap (w' := w.forCall tape i) (by rfl) hw) hc (hz.weights hw) (hX _ _ _ (by rfl) hx) hh).mono fun e W' hq => ?_
  obtain ⟨v, rfl, hp⟩ := hq
  exact ChangeSpec.post_blind hp
end Go.Proofs.YtajagjcfmaggiaaGreatDoor
/- Whatever reads as a Datum is a tree that lies in memory, its bits within 64; no condition. -/
namespace Go.Proofs.YtajagjcfmaggiaaGreatDoor.Dt
open Go.ChangeShapes Go.WideShapes Go.ChangeAt Go.WideMaps Go.WideElems Go.RowKit

theorem list_of {T : Type} (P : Nat → T → Prop) : ∀ (len : Nat), (∀ i, i < len → ∃ t, P i t) → ∃ l : List T, l.length = len ∧ ∀ i t, l[i]? = some t → P i t := by
  intro len
  induction len with
  | zero => intro _; exact ⟨[], rfl, fun i t h => by simp at h⟩
  | succ len ih =>
    intro h
    obtain ⟨l, hl, hp⟩ := ih (fun i hi => h i (by omega))
    obtain ⟨t, ht⟩ := h len (by omega)
    refine ⟨l ++ [t], by simp [hl], fun i t' hi => ?_⟩
    by_cases hlt : i < l.length
    · rw [List.getElem?_append_left hlt] at hi; exact hp i t' hi
    · rw [List.getElem?_append_right (by omega)] at hi
      have h0 : i - l.length = 0 := by
        by_cases h1 : i - l.length = 0
        · exact h1
        · rw [List.getElem?_eq_none (by simp; omega)] at hi; cases hi
      rw [h0] at hi
      simp at hi
      have : i = len := by omega
      subst this; subst hi; exact ht

theorem tcellsN25 : Tryz.prog.cellsOf 25 = 5 := by kernel_rfl
theorem tcellsN3 : Tryz.prog.cellsOf 3 = 1 := by kernel_rfl
theorem tcellsN2 : Tryz.prog.cellsOf 2 = 1 := by kernel_rfl
theorem tcellsN22 : Tryz.prog.cellsOf 22 = 1 := by kernel_rfl
theorem tcellsN9 : Tryz.prog.cellsOf 9 = 1 := by kernel_rfl
theorem tcellsN23 : Tryz.prog.cellsOf 23 = 1 := by kernel_rfl

theorem array5 {cs : Array Value} (h : cs.size = 5) : ∃ c0 c1 c2 c3 c4, cs = #[c0, c1, c2, c3, c4] := by
  obtain ⟨l⟩ := cs
  match l, h with
  | [c0, c1, c2, c3, c4], _ => exact ⟨c0, c1, c2, c3, c4, rfl⟩
end Go.Proofs.YtajagjcfmaggiaaGreatDoor.Dt
namespace Go.Proofs.YtajagjcfmaggiaaGreatDoor.Dt
open Go.ChangeShapes Go.WideShapes Go.ChangeAt Go.WideMaps Go.WideElems Go.RowKit
theorem wf64 {u : Int} (h : (Lit.int .u64 u).wf = true) : 0 ≤ u ∧ u < 18446744073709551616 := by
  have hw' : (0 : Int) ≤ u ∧ u ≤ 18446744073709551615 := by simpa [Lit.wf, IntKind.min, IntKind.max, IntKind.bits, IntKind.signed] using h
  omega

end Go.Proofs.YtajagjcfmaggiaaGreatDoor.Dt
