/- A number's text, whatever the library's table of powers holds: some text of at most 24 bytes; the condition: the table holds 20 numbers. -/
import Derived.Laws.BytesArg
import Derived.Lib.BitFns
import Derived.Test.YtajagjcfmaggiaaGreatDoorKCed
import Derived.Test.YtajagjcfmaggiaaGreatDoorKCdc
namespace Go.Proofs.YtajagjcfmaggiaaGreatDoor
open Go.RowKit

/-- The table holds numbers. -/
def Tb20 (w : World) : Prop := 1 < w.heap.size ∧ ∀ j, j < 20 → ∃ x : Int, w.cell? ⟨1, j, none⟩ = some (.int .u64 x)
theorem Tb20.below {w w' : World} (h : Tb20 w) (hb : Below w.heap.size w w') : Tb20 w' :=
  ⟨Nat.lt_of_lt_of_le h.1 hb.size, fun j hj => by
    obtain ⟨x, hx⟩ := h.2 j hj
    exact ⟨x, (hb.cell (p := ⟨1, j, none⟩) h.1).trans hx⟩⟩
theorem l10_le (x : Nat) (h : x ≤ 64) : Lib.l10 x ≤ 19 := by unfold Lib.l10; omega

set_option maxRecDepth 100000 in
set_option maxHeartbeats 2000000 in
theorem nd_any (u : Int) (h0 : 0 ≤ u) (h1 : u ≤ 18446744073709551615) (w : World) (hT : Tb20 w) : Calls Tryz.prog 95 #[.int .u64 u] w fun e w' => ∃ nd : Nat, e = .returned (.int .i64 nd) ∧ nd ≤ 20 ∧ w' = w := by
  have hb : Lib.bitLen u.toNat ≤ 64 := Lib.bitLen_le u.toNat 64 (by decide) (by omega)
  have hl := l10_le _ hb
  have HL := Lib.hid (Tryz.bits_Len64 u w h0 h1)
  have HG := Lib.hid (Tryz.internal_strconv_log10Pow2 (Lib.bitLen u.toNat) hb w)
  obtain ⟨t, ht⟩ : ∃ t, Lib.l10 (Lib.bitLen u.toNat) = t := ⟨_, rfl⟩
  rw [ht] at HG hl
  obtain ⟨x, hx⟩ := hT.2 t (by omega)
  have h20 : (t : Int) < 20 := by omega
  clear hT hb ht
  go_enter Tryz.func95, Tryz.ntmps95
  go_wp2_with fail
  refine HL.out.mono ?_
  rintro e w1 ⟨rfl, rfl⟩
  go_wp2_with fail
  refine HG.out.mono ?_
  rintro e w2 ⟨rfl, rfl⟩
  clear HL HG
  go_wp2_with fail
  refine (Tryz.internal_strconv_bool2_int _ _).mono ?_
  rintro e w3 ⟨rfl, rfl⟩
  by_cases hc : x ≤ u
  · rw [if_pos (by simpa using hc)]
    go_wp2
    go_ret
    exact ⟨t + 1, rfl, by omega, rfl⟩
  · rw [if_neg (by simpa using hc)]
    go_wp2
    go_ret
    exact ⟨t, by simp, by omega, rfl⟩

theorem bu_new (w : World) : Bu (w.alloc (.cells #[.int .u8 0, .int .u8 0, .int .u8 0, .int .u8 0, .int .u8 0, .int .u8 0, .int .u8 0, .int .u8 0, .int .u8 0, .int .u8 0, .int .u8 0, .int .u8 0, .int .u8 0, .int .u8 0, .int .u8 0, .int .u8 0, .int .u8 0, .int .u8 0, .int .u8 0, .int .u8 0, .int .u8 0, .int .u8 0, .int .u8 0, .int .u8 0] 159)) w.heap.size 24 159 :=
  ⟨#[.int .u8 0, .int .u8 0, .int .u8 0, .int .u8 0, .int .u8 0, .int .u8 0, .int .u8 0, .int .u8 0, .int .u8 0, .int .u8 0, .int .u8 0, .int .u8 0, .int .u8 0, .int .u8 0, .int .u8 0, .int .u8 0, .int .u8 0, .int .u8 0, .int .u8 0, .int .u8 0, .int .u8 0, .int .u8 0, .int .u8 0, .int .u8 0], Bk.new w _ _, rfl, fun j hj => ⟨0, by
    have : j = 0 ∨ j = 1 ∨ j = 2 ∨ j = 3 ∨ j = 4 ∨ j = 5 ∨ j = 6 ∨ j = 7 ∨ j = 8 ∨ j = 9 ∨ j = 10 ∨ j = 11 ∨ j = 12 ∨ j = 13 ∨ j = 14 ∨ j = 15 ∨ j = 16 ∨ j = 17 ∨ j = 18 ∨ j = 19 ∨ j = 20 ∨ j = 21 ∨ j = 22 ∨ j = 23 := by omega
    rcases this with rfl | rfl | rfl | rfl | rfl | rfl | rfl | rfl | rfl | rfl | rfl | rfl | rfl | rfl | rfl | rfl | rfl | rfl | rfl | rfl | rfl | rfl | rfl | rfl <;> rfl, by decide, by decide⟩⟩
/-- Bytes as a text. -/
theorem bu_text {w : World} {B n off len cap : Nat} {T : TypeId} (h : Bu w B n T) (hn : off + len ≤ n) : ∃ s : ByteArray, s.size = len ∧ (convert 146 9 (.slice (some ⟨B, off, none⟩) len cap)).run Tryz.prog w = .ok (.string s) w := by
  obtain ⟨l, hl, hc⟩ : ∃ l : List Int, l.length = len ∧ ∀ i x, l[i]? = some x → w.cell? ⟨B, off + i, none⟩ = some (.int .u8 x) := Dt.list_at (fun i x => w.cell? ⟨B, off + i, none⟩ = some (.int .u8 x)) len fun i hi => h.c (j := off + i) (by omega)
  refine ⟨strOfNums l, by rw [strOfNums_size, hl], run_convert_bytes_arg w 146 5 Tryz.underlying146 Tryz.underlying5 B off len cap l hl (fun i hi => ?_) 9 Tryz.underlying9⟩
  have hi' : i < l.length := by omega
  rw [hc i _ (List.getElem?_eq_getElem hi'), List.getD_eq_getElem?_getD, List.getElem?_eq_getElem hi']
  rfl

theorem slice1 (B nd : Nat) (h : nd ≤ 20) (w : World) : (Instr.sliceAt 159 (.pointer (some ⟨B, 0, none⟩)) (some (.int .i64 1)) (some (.int .i64 (1 + (nd : Int)))) none).run Tryz.prog w = .ok (.slice (some ⟨B, 1, none⟩) nd 23) w := by
  have hl : Tryz.prog.arrayLen 159 = 24 := by kernel_rfl
  have ht : Tryz.prog.underlying 159 = some (.array (Tryz.prog.arrayLen 159) (Tryz.prog.elem 159)) := by kernel_rfl
  have hs : (sizeOf (Tryz.prog.elem 159)).run Tryz.prog w = .ok 1 w := by kernel_rfl
  rw [run_sliceAt_array_lh w 159 _ ht .i64 .i64 1 (1 + (nd : Int)) (by decide) (by omega) (by rw [hl]; omega), hl, hs]
  have e : (1 + (nd : Int)).toNat = 1 + nd := by omega
  simp [Result.andThen, slicedAt, Addr.add, e]
theorem slice0 (B nd : Nat) (h : nd ≤ 20) (w : World) : (Instr.sliceAt 159 (.pointer (some ⟨B, 0, none⟩)) none (some (.int .i64 (1 + (nd : Int)))) none).run Tryz.prog w = .ok (.slice (some ⟨B, 0, none⟩) (1 + nd) 24) w := by
  have hl : Tryz.prog.arrayLen 159 = 24 := by kernel_rfl
  have ht : Tryz.prog.underlying 159 = some (.array (Tryz.prog.arrayLen 159) (Tryz.prog.elem 159)) := by kernel_rfl
  have hs : (sizeOf (Tryz.prog.elem 159)).run Tryz.prog w = .ok 1 w := by kernel_rfl
  rw [run_sliceAt_array_h w 159 _ ht .i64 (1 + (nd : Int)) (by omega) (by rw [hl]; omega), hl, hs]
  have e : (1 + (nd : Int)).toNat = 1 + nd := by omega
  simp [Result.andThen, slicedAt, Addr.add, e]

set_option maxRecDepth 100000 in
set_option maxHeartbeats 2000000 in
theorem fi_any (i : Int) (hi : Dt.I64 i) (w : World) (hT : Tb20 w) : Calls Tryz.prog 84 #[.int .i64 i, .int .i64 10] w fun e w' => ∃ s : ByteArray, e = .returned (.string s) ∧ s.size ≤ 24 ∧ Below w.heap.size w w' := by
  by_cases hs : 0 ≤ i ∧ i < 100
  · obtain ⟨q, rfl⟩ : ∃ q : Nat, i = (q : Int) := ⟨i.toNat, by omega⟩
    have hq : q < 100 := by omega
    refine (Tryz.internal_strconv_FormatInt_10_small q hq w).mono fun e w' ⟨he, hw⟩ => ⟨_, he, ?_, hw ▸ Below.refl _ _⟩
    have : ∀ q, q < 100 → (ByteArray.mk (Lib.decDigits q).toArray).size ≤ 24 := by decide +kernel
    exact this q hq
  have B0 := below1 w (.cells #[.int .u8 0, .int .u8 0, .int .u8 0, .int .u8 0, .int .u8 0, .int .u8 0, .int .u8 0, .int .u8 0, .int .u8 0, .int .u8 0, .int .u8 0, .int .u8 0, .int .u8 0, .int .u8 0, .int .u8 0, .int .u8 0, .int .u8 0, .int .u8 0, .int .u8 0, .int .u8 0, .int .u8 0, .int .u8 0, .int .u8 0, .int .u8 0] 159)
  have U0 := bu_new w
  have HN := Lib.hid (fun u h0 h1 => nd_any u h0 h1 _ (hT.below B0))
  clear hT
  unfold Dt.I64 at hi
  by_cases hneg : i < 0
  · have g1 : decide (0 ≤ i) = false := decide_eq_false (by omega)
    have g2 : decide (i < 0) = true := decide_eq_true hneg
    go_enter Tryz.func84, Tryz.ntmps84
    go_wp2_with fail
    have hU : 0 ≤ IntKind.u64.wrap (-IntKind.u64.wrap i) ∧ IntKind.u64.wrap (-IntKind.u64.wrap i) ≤ 18446744073709551615 := by
      rw [IntKind.wrap_u64 (-IntKind.u64.wrap i)]; omega
    generalize IntKind.u64.wrap (-IntKind.u64.wrap i) = U at *
    refine (HN.out U hU.1 hU.2).mono ?_
    rintro e w1 ⟨nd, rfl, hnd, hw⟩
    rw [← hw] at U0 B0
    clear hw HN
    have n1 : (nd : Int) ≤ 20 := by omega
    generalize hB : w.heap.size = B at *
    have s1 := slice1 B nd hnd
    have s0 := slice0 B nd hnd
    go_wp2_with fail
    refine (fb_any B 1 24 nd 23 U 159 w1 U0 (by omega) hnd hU.1 hU.2).mono ?_
    rintro e w2 ⟨rfl, q2⟩
    have U3 := q2.u.set 0 45 (by decide) (by decide)
    obtain ⟨b0, c0⟩ := q2.u.c (j := 0) (by decide)
    have z0 := q2.u.f
    obtain ⟨s, hs, hc⟩ := bu_text (cap := 24) U3 (off := 0) (len := 1 + nd) (by omega)
    have BF : Below B w (w2.setCell ⟨B, 0, none⟩ (.int .u8 45)) := (B0.trans (q2.b.mono (Nat.le_refl _))).setCell (show B ≤ B from Nat.le_refl B) _
    clear U3 U0
    go_wp2
    go_ret
    exact ⟨s, rfl, by omega, by rw [hB]; exact BF⟩
  · have g1 : decide (0 ≤ i) = true := decide_eq_true (by omega)
    have g2 : decide (i < 0) = false := decide_eq_false hneg
    have g3 : decide (i < 100) = false := decide_eq_false (by omega)
    go_enter Tryz.func84, Tryz.ntmps84
    go_wp2_with fail
    have hU : 0 ≤ i ∧ i ≤ 18446744073709551615 := by omega
    refine (HN.out i hU.1 hU.2).mono ?_
    rintro e w1 ⟨nd, rfl, hnd, hw⟩
    rw [← hw] at U0 B0
    clear hw HN
    have n1 : (nd : Int) ≤ 20 := by omega
    generalize hB : w.heap.size = B at *
    have s1 := slice1 B nd hnd
    have s0 := slice0 B nd hnd
    go_wp2_with fail
    refine (fb_any B 1 24 nd 23 i 159 w1 U0 (by omega) hnd hU.1 hU.2).mono ?_
    rintro e w2 ⟨rfl, q2⟩
    obtain ⟨s, hs, hc⟩ := bu_text (cap := 23) q2.u (off := 1) (len := nd) (by omega)
    have BF := B0.trans (q2.b.mono (Nat.le_refl _))
    clear U0
    go_wp2
    go_ret
    exact ⟨s, rfl, by omega, by rw [hB]; exact BF⟩

set_option maxRecDepth 100000 in
set_option maxHeartbeats 2000000 in
theorem sfi_any (i : Int) (hi : Dt.I64 i) (w : World) (hT : Tb20 w) : Calls Tryz.prog 69 #[.int .i64 i, .int .i64 10] w fun e w' => ∃ s : ByteArray, e = .returned (.string s) ∧ s.size ≤ 24 ∧ Below w.heap.size w w' := by
  have HF := Lib.hid (fi_any i hi w hT)
  clear hi hT
  go_enter Tryz.func69, Tryz.ntmps69
  go_wp2_with fail
  refine HF.out.mono ?_
  rintro e w1 ⟨s, rfl, hs, b1⟩
  go_wp2
  go_ret
  exact ⟨s, rfl, hs, b1⟩

set_option maxRecDepth 100000 in
set_option maxHeartbeats 2000000 in
theorem keyName_any (i : Int) (hi : Dt.I64 i) (w : World) (hT : Tb20 w) : Calls Tryz.prog 211 #[.int .i64 i] w fun e w' => ∃ s : ByteArray, e = .returned (.string s) ∧ s.size ≤ 28 ∧ Below w.heap.size w w' := by
  have HF := Lib.hid (sfi_any i hi w hT)
  clear hi hT
  go_enter Tryz.func211, Tryz.ntmps211
  go_wp2_with fail
  refine HF.out.mono ?_
  rintro e w1 ⟨s, rfl, hs, b1⟩
  have hl : ¬ 9223372036854775807 < 4 + s.size := by omega
  go_wp2
  go_ret
  have e4 : (ByteArray.mk #[107, 101, 121, 32]).size = 4 := rfl
  exact ⟨_, rfl, by simp [ByteArray.size_append]; omega, b1⟩

end Go.Proofs.YtajagjcfmaggiaaGreatDoor
