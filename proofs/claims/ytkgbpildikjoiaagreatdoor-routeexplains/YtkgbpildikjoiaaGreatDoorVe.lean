/- The document's Explain, walked; the conditions that each theorem names. -/
import Derived.Test.YtkgbpildikjoiaaGreatDoorVd
import Derived.Lib.AppendIntMem
import Derived.Lib.ItoaLen
namespace Go.Proofs.YtkgbpildikjoiaaGreatDoor
open Go.RowKit Tp

def P10 (w : World) : Prop := Lib.TabIs Tryz.prog w "internal/strconv.uint64pow10" .u64 Lib.pow10Tab
theorem P10.below {w w' : World} (h : P10 w) (hb : Below w.heap.size w w') : P10 w' := ((Lib.tabBelow_of_tabIs h).on hb).here
theorem itoa_any (j : Nat) (hj : j ≤ 400) (w : World) (hT : P10 w) : Calls Tryz.prog 23 #[.int .i64 j] w fun e w' => e = .returned (.string ⟨(Lib.itoa j).toArray⟩) ∧ Below w.heap.size w w' := by
  refine (Tryz.strconv_Itoa j (by omega) (by omega) w hT).mono ?_
  rintro e w' ⟨he, k, os, rfl⟩
  exact ⟨he, Lib.below_grow _ w (Nat.le_refl _) k os⟩
/-- What is told of a route. -/
def wrd (tp : Bs) (k : Int) (E : Bool) (x : Ro) : ByteArray :=
  if x.tp tp = false then ⟨#[32, 116, 111, 112, 105, 99]⟩ else if x.ty k = false then ⟨#[32, 116, 121, 112, 101]⟩ else if x.e = false then ⟨#[32, 116, 97, 107, 101, 115]⟩ else if E = true then ⟨#[32, 101, 108, 115, 101]⟩ else ⟨#[32, 115, 112, 97, 114, 101]⟩
/-- What is told of the first j routes. -/
def exf (tp : Bs) (k : Int) (E : Bool) (L : List Ro) : Nat → ByteArray
  | 0 => ⟨#[]⟩
  | j + 1 => match L[j]? with
    | some x => ((exf tp k E L j ++ ⟨(Lib.itoa j).toArray⟩) ++ wrd tp k E x) ++ ⟨#[10]⟩
    | none => exf tp k E L j
theorem itoa_len (j : Nat) (hj : j ≤ 400) : (Lib.itoa j).length ≤ 21 := by
  have h9 := Lib.itoa_length_le (j : Int) (by omega) (by omega)
  exact h9


set_option maxRecDepth 100000 in
set_option maxHeartbeats 4000000 in
theorem rexplain_any (L : List Ro) (ad : Option Addr) (cap : Nat) (m : Mg) (w : World) (h : Rs w ad L) (hl : L.length ≤ 400) (hk : ∀ x ∈ L, x.ok = true) (hkk : 0 ≤ m.k ∧ m.k ≤ 13) (hmt : m.tp.size ≤ 9223372036854775807) (hT : Tabs w) (hP : P10 w) :
    Calls Tryz.prog 15 #[.slice ad L.length cap, .agg m.cs] w fun e w' => e = .returned (.string (exf (tl m.tp) m.k (tkE (tl m.tp) m.k L) L L.length)) ∧ Below w.heap.size w w' := by
  have b0 := below1 w (.cells m.cs 28)
  have n0 := Bk.new w m.cs 28
  obtain ⟨w0, hw0⟩ : ∃ w0, w0 = w.alloc (.cells m.cs 28) := ⟨_, rfl⟩
  rw [← hw0] at b0 n0
  have HW := Lib.hid hw0.symm
  have z0 : w0.heap.size = w.heap.size + 1 := by rw [hw0]; simp
  have KF := Lib.hid (rfind_any L ad cap m w0 (h.below b0) hl hk hkk hmt (hT.below b0))
  have HS := Lib.hid h
  have HK := Lib.hid hk
  have HKK := Lib.hid hkk
  have HMT := Lib.hid hmt
  have HT := Lib.hid hT
  have HP := Lib.hid hP
  obtain ⟨m0, m1, m2, m3, m4, m5, m6, m7, m8, m9, m10, m11, m12⟩ := n0.c13
  generalize tkE (tl m.tp) m.k L = E at KF ⊢
  have HN := Lib.hid n0
  clear h hk hkk hmt hT hw0 n0 hP
  go_enter Tryz.func15, Tryz.ntmps15
  go_wp2_with (rw [HW.out])
  refine KF.out.mono ?_
  rintro e w1 ⟨sv, rfl, hown, b1⟩
  obtain ⟨ta, tc, rfl⟩ := row_form hown
  have b2 := below1 w1 (.cells #[.slice ta (tkR (tl m.tp) m.k L).length tc, .bool E] 33)
  have n2 := Bk.new w1 #[.slice ta (tkR (tl m.tp) m.k L).length tc, .bool E] 33
  obtain ⟨w2, hw2⟩ : ∃ w2, w2 = w1.alloc (.cells #[.slice ta (tkR (tl m.tp) m.k L).length tc, .bool E] 33) := ⟨_, rfl⟩
  rw [← hw2] at b2 n2
  have HW2 := Lib.hid hw2.symm
  have B2 : Below w.heap.size w w2 := (b0.trans (b1.mono (by omega))).trans (b2.mono (by have := b1.size; omega))
  have BM : Hid (∀ wx, Below w2.heap.size w2 wx → Bk wx w.heap.size m.cs 28) := fun wx hx => ((HN.out.below b1).below b2).below hx
  have BT : Hid (∀ wx, Below w2.heap.size w2 wx → Bk wx w1.heap.size #[.slice ta (tkR (tl m.tp) m.k L).length tc, .bool E] 33) := fun wx hx => n2.below hx
  clear m0 m1 m2 m3 m4 m5 m6 m7 m8 m9 m10 m11 m12 hown KF hw2 n2 b0 b1 b2 HN
  go_wp2_with (rw [HW2.out])
  go_loopg [6, 15] L.length (fun g s6 s15 wx => ∃ (j : Nat) (S : ByteArray), j + g = L.length ∧ s15 = .int .i64 j ∧ s6 = .string S ∧ S.size ≤ 60 * j ∧ S = exf (tl m.tp) m.k E L j ∧ Below w2.heap.size w2 wx)
  case atStart => exact ⟨0, ⟨#[]⟩, by omega, rfl, rfl, Nat.le_refl _, rfl, Below.refl _ _⟩
  case round =>
    obtain ⟨j, S, hig, rfl, rfl, hsz, hS, hB⟩ := hrel
    have HSe := Lib.hid hS
    clear hS
    cases gk with
    | zero =>
      obtain rfl : j = L.length := by omega
      go_wp2
      go_ret
      exact ⟨by rw [HSe.out]; rfl, B2.trans (hB.mono B2.size)⟩
    | succ g =>
      have hi : j < L.length := by omega
      obtain ⟨x, hx⟩ : ∃ x, L[j]? = some x := ⟨_, List.getElem?_eq_getElem hi⟩
      obtain ⟨b, of, rfl, cc, rr, sz⟩ := ((HS.out.below B2).below hB).at j x hx
      have hg := ok_right (HK.out x (List.mem_of_getElem? hx))
      have hex : exf (tl m.tp) m.k E L (j + 1) = ((exf (tl m.tp) m.k E L j ++ ⟨(Lib.itoa j).toArray⟩) ++ wrd (tl m.tp) m.k E x) ++ ⟨#[10]⟩ := by
        simp only [exf, hx]
      have hwr : wrd (tl m.tp) m.k E x = if x.tp (tl m.tp) = false then ⟨#[32, 116, 111, 112, 105, 99]⟩ else if x.ty m.k = false then ⟨#[32, 116, 121, 112, 101]⟩ else if x.e = false then ⟨#[32, 116, 97, 107, 101, 115]⟩ else if E = true then ⟨#[32, 101, 108, 115, 101]⟩ else ⟨#[32, 115, 112, 97, 114, 101]⟩ := rfl
      rw [← HSe.out] at hex
      obtain ⟨f, n, t, o, a, wd, wl, wc, hh, xe⟩ := x
      obtain ⟨c0, c1, c2, c3, c4, c5⟩ := cc
      obtain ⟨w3, HW3, b3, n3, z3⟩ := bx6 wr f o a wd wl wc hh xe
      obtain ⟨k0, k1, k2, k3, k4, k5⟩ := n3.c6
      simp only at c0 c1 c2 c3 c4 c5
      have HC : Hid (∀ wx, Below w3.heap.size w3 wx → Bk wx wr.heap.size #[.string f, .int .i64 o, .int .i64 a, .slice wd wl wc, .int .i64 hh, .bool xe] 45) := fun wx hx => n3.below hx
      have B3 : Below w2.heap.size w2 w3 := hB.trans (b3.mono hB.size)
      have HB3 : Hid (∀ wx, Below w3.heap.size w3 wx → Below w2.heap.size w2 wx) := fun wx hx => B3.trans (hx.mono B3.size)
      have rr1 : RepW w3 n [.int .i64 o, .int .i64 a, .slice wd wl wc] t := RepW.below b3 _ _ _ rr
      have hTr : Tabs w3 := (HT.out.below B2).below B3
      have hPr : P10 w3 := (HP.out.below B2).below B3
      have HTY : Hid (∀ wx, Below w3.heap.size w3 wx → Calls Tryz.prog 18 #[.agg #[.string f, .int .i64 o, .int .i64 a, .slice wd wl wc, .int .i64 hh, .bool xe], .agg #[.int .i64 m.k, .int .i64 m.i, .int .u64 m.u, .string m.s, .slice m.a m.l m.c]] wx fun e w' => e = .returned (.bool ((⟨f, n, t, o, a, wd, wl, wc, hh, xe⟩ : Ro).ty m.k)) ∧ Below w3.heap.size w3 w') := fun wx hx => (rtyped_any ⟨f, n, t, o, a, wd, wl, wc, hh, xe⟩ m.k m.i m.u m.s m.a m.l m.c wx (RepW.below hx _ _ _ rr1) hg HKK.out.1 HKK.out.2).mono fun e w' ⟨p, q⟩ => ⟨p, hx.trans (q.mono hx.size)⟩
      have HMA : Hid (∀ wx, Below w3.heap.size w3 wx → Calls Tryz.prog 17 #[.string f, .string m.tp] wx fun e w' => e = .returned (.bool ((⟨f, n, t, o, a, wd, wl, wc, hh, xe⟩ : Ro).tp (tl m.tp))) ∧ Below w3.heap.size w3 w') := fun wx hx => (rmatch_any f m.tp wx (by unfold maxLen at sz; simp only at sz; omega) HMT.out (hTr.below hx)).mono fun e w' ⟨p, q⟩ => ⟨by rw [p]; exact ret_b (match_ref _ _).symm, hx.trans (q.mono hx.size)⟩
      have HIT : Hid (∀ wx, Below w3.heap.size w3 wx → Calls Tryz.prog 23 #[.int .i64 (j : Int)] wx fun e w' => e = .returned (.string ⟨(Lib.itoa j).toArray⟩) ∧ Below w3.heap.size w3 w') := fun wx hx => (itoa_any j (by omega) wx (hPr.below hx)).mono fun e w' ⟨p, q⟩ => ⟨p, hx.trans (q.mono hx.size)⟩
      have hil := itoa_len j (by omega)
      generalize (⟨f, n, t, o, a, wd, wl, wc, hh, xe⟩ : Ro).ty m.k = ty at HTY hwr
      generalize (⟨f, n, t, o, a, wd, wl, wc, hh, xe⟩ : Ro).tp (tl m.tp) = mt at HMA hwr
      simp only at hwr
      rw [hwr] at hex
      have HEX := Lib.hid hex
      obtain ⟨I, hI⟩ : ∃ I : ByteArray, I = ⟨(Lib.itoa j).toArray⟩ := ⟨_, rfl⟩
      have hIs : I.size ≤ 21 := by rw [hI]; simpa [ByteArray.size] using hil
      rw [← hI] at HIT HEX
      have hjl : (j : Int) < (L.length : Int) := by omega
      obtain ⟨-, m1, m2, m3, m4, m5, m6, -⟩ := (BM.out _ B3).c13
      have hs1 := B2.size
      have hs2 := hB.size
      clear hx rr rr1 sz hg hex hwr hTr hPr n3 z3 B3 hil hI
      cases mt with
      | false =>
        go_wp2_with (rw [HW3.out])
        refine (HMA.out _ (Below.refl _ _)).mono ?_
        rintro e4 w4 ⟨rfl, b4⟩
        clear c0 c1 c2 c3 c4 c5 k0 k1 k2 k3 k4 k5 m1 m2 m3 m4 m5 m6
        go_wp2_with fail
        refine (HIT.out _ b4).mono ?_
        rintro e6 w6 ⟨rfl, b6⟩
        have s1 : ¬ 9223372036854775807 < S.size + I.size := by omega
        have s2 : ¬ 9223372036854775807 < (S ++ I).size + 6 := by rw [ByteArray.size_append]; omega
        have s3 : ¬ 9223372036854775807 < ((S ++ I) ++ (⟨#[32, 116, 111, 112, 105, 99]⟩ : ByteArray)).size + 1 := by rw [ByteArray.size_append, ByteArray.size_append]; show ¬ 9223372036854775807 < S.size + I.size + 6 + 1; omega
        go_wp2_with fail
        go_roundg g
        case measure => omega
        case rel =>
          refine ⟨j + 1, _, by omega, by simp, rfl, ?_, ?_, HB3.out _ b6⟩
          · rw [ByteArray.size_append, ByteArray.size_append, ByteArray.size_append]; show S.size + I.size + 6 + 1 ≤ 60 * (j + 1); omega
          · rw [HEX.out]; simp
      | true =>
        cases ty with
        | false =>
          go_wp2_with (rw [HW3.out])
          refine (HMA.out _ (Below.refl _ _)).mono ?_
          rintro e4 w4 ⟨rfl, b4⟩
          clear c0 c1 c2 c3 c4 c5 k0 k1 k2 k3 k4 k5 m1 m2 m3 m4 m5 m6
          obtain ⟨c0, c1, c2, c3, c4, c5⟩ := (HC.out _ b4).c6
          obtain ⟨-, -, m2, m3, m4, m5, m6, -⟩ := (BM.out _ (HB3.out _ b4)).c13
          go_wp2_with fail
          refine (HTY.out _ b4).mono ?_
          rintro e5 w5 ⟨rfl, b5⟩
          clear c0 c1 c2 c3 c4 c5 m2 m3 m4 m5 m6
          go_wp2_with fail
          refine (HIT.out _ b5).mono ?_
          rintro e6 w6 ⟨rfl, b6⟩
          have s1 : ¬ 9223372036854775807 < S.size + I.size := by omega
          have s2 : ¬ 9223372036854775807 < (S ++ I).size + 5 := by rw [ByteArray.size_append]; omega
          have s3 : ¬ 9223372036854775807 < ((S ++ I) ++ (⟨#[32, 116, 121, 112, 101]⟩ : ByteArray)).size + 1 := by rw [ByteArray.size_append, ByteArray.size_append]; show ¬ 9223372036854775807 < S.size + I.size + 5 + 1; omega
          go_wp2_with fail
          go_roundg g
          case measure => omega
          case rel =>
            refine ⟨j + 1, _, by omega, by simp, rfl, ?_, ?_, HB3.out _ b6⟩
            · rw [ByteArray.size_append, ByteArray.size_append, ByteArray.size_append]; show S.size + I.size + 5 + 1 ≤ 60 * (j + 1); omega
            · rw [HEX.out]; simp
        | true =>
          cases xe with
          | false =>
            go_wp2_with (rw [HW3.out])
            refine (HMA.out _ (Below.refl _ _)).mono ?_
            rintro e4 w4 ⟨rfl, b4⟩
            clear c0 c1 c2 c3 c4 c5 k0 k1 k2 k3 k4 k5 m1 m2 m3 m4 m5 m6
            obtain ⟨c0, c1, c2, c3, c4, c5⟩ := (HC.out _ b4).c6
            obtain ⟨-, -, m2, m3, m4, m5, m6, -⟩ := (BM.out _ (HB3.out _ b4)).c13
            go_wp2_with fail
            refine (HTY.out _ b4).mono ?_
            rintro e5 w5 ⟨rfl, b5⟩
            clear c0 c1 c2 c3 c4 c5 m2 m3 m4 m5 m6
            obtain ⟨-, -, -, -, -, c5⟩ := (HC.out _ b5).c6
            go_wp2_with fail
            refine (HIT.out _ b5).mono ?_
            rintro e6 w6 ⟨rfl, b6⟩
            clear c5
            have s1 : ¬ 9223372036854775807 < S.size + I.size := by omega
            have s2 : ¬ 9223372036854775807 < (S ++ I).size + 6 := by rw [ByteArray.size_append]; omega
            have s3 : ¬ 9223372036854775807 < ((S ++ I) ++ (⟨#[32, 116, 97, 107, 101, 115]⟩ : ByteArray)).size + 1 := by rw [ByteArray.size_append, ByteArray.size_append]; show ¬ 9223372036854775807 < S.size + I.size + 6 + 1; omega
            go_wp2_with fail
            go_roundg g
            case measure => omega
            case rel =>
              refine ⟨j + 1, _, by omega, by simp, rfl, ?_, ?_, HB3.out _ b6⟩
              · rw [ByteArray.size_append, ByteArray.size_append, ByteArray.size_append]; show S.size + I.size + 6 + 1 ≤ 60 * (j + 1); omega
              · rw [HEX.out]; simp
          | true =>
            cases E with
            | true =>
              go_wp2_with (rw [HW3.out])
              refine (HMA.out _ (Below.refl _ _)).mono ?_
              rintro e4 w4 ⟨rfl, b4⟩
              clear c0 c1 c2 c3 c4 c5 k0 k1 k2 k3 k4 k5 m1 m2 m3 m4 m5 m6
              obtain ⟨c0, c1, c2, c3, c4, c5⟩ := (HC.out _ b4).c6
              obtain ⟨-, -, m2, m3, m4, m5, m6, -⟩ := (BM.out _ (HB3.out _ b4)).c13
              go_wp2_with fail
              refine (HTY.out _ b4).mono ?_
              rintro e5 w5 ⟨rfl, b5⟩
              clear c0 c1 c2 c3 c4 c5 m2 m3 m4 m5 m6
              obtain ⟨-, -, -, -, -, c5⟩ := (HC.out _ b5).c6
              obtain ⟨-, t1⟩ := (BT.out _ (HB3.out _ b5)).c2
              go_wp2_with fail
              refine (HIT.out _ b5).mono ?_
              rintro e6 w6 ⟨rfl, b6⟩
              clear c5 t1
              have s1 : ¬ 9223372036854775807 < S.size + I.size := by omega
              have s2 : ¬ 9223372036854775807 < (S ++ I).size + 5 := by rw [ByteArray.size_append]; omega
              have s3 : ¬ 9223372036854775807 < ((S ++ I) ++ (⟨#[32, 101, 108, 115, 101]⟩ : ByteArray)).size + 1 := by rw [ByteArray.size_append, ByteArray.size_append]; show ¬ 9223372036854775807 < S.size + I.size + 5 + 1; omega
              go_wp2_with fail
              go_roundg g
              case measure => omega
              case rel =>
                refine ⟨j + 1, _, by omega, by simp, rfl, ?_, ?_, HB3.out _ b6⟩
                · rw [ByteArray.size_append, ByteArray.size_append, ByteArray.size_append]; show S.size + I.size + 5 + 1 ≤ 60 * (j + 1); omega
                · rw [HEX.out]; simp
            | false =>
              go_wp2_with (rw [HW3.out])
              refine (HMA.out _ (Below.refl _ _)).mono ?_
              rintro e4 w4 ⟨rfl, b4⟩
              clear c0 c1 c2 c3 c4 c5 k0 k1 k2 k3 k4 k5 m1 m2 m3 m4 m5 m6
              obtain ⟨c0, c1, c2, c3, c4, c5⟩ := (HC.out _ b4).c6
              obtain ⟨-, -, m2, m3, m4, m5, m6, -⟩ := (BM.out _ (HB3.out _ b4)).c13
              go_wp2_with fail
              refine (HTY.out _ b4).mono ?_
              rintro e5 w5 ⟨rfl, b5⟩
              clear c0 c1 c2 c3 c4 c5 m2 m3 m4 m5 m6
              obtain ⟨-, -, -, -, -, c5⟩ := (HC.out _ b5).c6
              obtain ⟨-, t1⟩ := (BT.out _ (HB3.out _ b5)).c2
              go_wp2_with fail
              refine (HIT.out _ b5).mono ?_
              rintro e6 w6 ⟨rfl, b6⟩
              clear c5 t1
              have s1 : ¬ 9223372036854775807 < S.size + I.size := by omega
              have s2 : ¬ 9223372036854775807 < (S ++ I).size + 6 := by rw [ByteArray.size_append]; omega
              have s3 : ¬ 9223372036854775807 < ((S ++ I) ++ (⟨#[32, 115, 112, 97, 114, 101]⟩ : ByteArray)).size + 1 := by rw [ByteArray.size_append, ByteArray.size_append]; show ¬ 9223372036854775807 < S.size + I.size + 6 + 1; omega
              go_wp2_with fail
              go_roundg g
              case measure => omega
              case rel =>
                refine ⟨j + 1, _, by omega, by simp, rfl, ?_, ?_, HB3.out _ b6⟩
                · rw [ByteArray.size_append, ByteArray.size_append, ByteArray.size_append]; show S.size + I.size + 6 + 1 ≤ 60 * (j + 1); omega
                · rw [HEX.out]; simp
end Go.Proofs.YtkgbpildikjoiaaGreatDoor
