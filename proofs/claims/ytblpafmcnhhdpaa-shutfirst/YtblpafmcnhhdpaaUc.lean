/- The document's waits, walked; the conditions that each theorem names. -/
import Derived.Test.YtblpafmcnhhdpaaUb
namespace Go.Proofs.Ytblpafmcnhhdpaa
open Go.RowKit

set_option maxRecDepth 100000 in
set_option maxHeartbeats 2000000 in
theorem rwaits_any (A : List (List Int)) (ad : Option Addr) (cap : Nat) (G : Nat) (f : Nat → Bool) (i : Nat) (w : World) (h : Rj w ad A) (hf : Bf w G A.length f) (hi : i < A.length) (hll : ∀ l ∈ A, l.length ≤ 400) :
    Calls Try.prog 16 #[.slice ad A.length cap, .int .i64 i, .slice (some ⟨G, 0, none⟩) A.length A.length] w fun e w' => e = .returned (.bool (wts A f i)) ∧ w' = w := by
  obtain ⟨l, hl2⟩ : ∃ l, A[i]? = some l := ⟨_, List.getElem?_eq_getElem hi⟩
  obtain ⟨b, o, sv, rfl, c0, hr⟩ := h.at i l hl2
  have hlm := hll l (List.mem_of_getElem? hl2)
  have hw : wts A f i = l.any fun k => vd A.length i k && !f k.toNat := by unfold wts; rw [hl2]; rfl
  rw [hw]
  have HF := Lib.hid hf
  obtain ⟨sa, sc, rfl, -⟩ := id hr
  have HR := Lib.hid hr
  have hi' : (i : Int) < (A.length : Int) := by omega
  have hi0 : (0 : Int) ≤ (i : Int) := by omega
  clear hll hl2 hw h hf hr
  go_enter Try.func16, Try.ntmps16
  go_wp2
  go_loopg [8, 14] l.length (fun g s8 s14 wx => ∃ q : Nat, q + g = l.length ∧ s14 = .int .i64 q ∧ ((l.take q).any fun k => vd A.length i k && !f k.toNat) = false ∧ wx = w)
  case atStart => exact ⟨0, by omega, rfl, rfl, rfl⟩
  case round =>
    obtain ⟨q, hqg, rfl, hno, rfl⟩ := hrel
    have HN := Lib.hid hno
    clear hno
    cases gk with
    | zero =>
      obtain rfl : q = l.length := by omega
      go_wp2
      go_ret
      refine ⟨ret_b ?_, rfl⟩
      have := HN.out
      rw [List.take_length] at this
      exact this.symm
    | succ g =>
      have hq : q < l.length := by omega
      obtain ⟨k, hk⟩ : ∃ k, l[q]? = some k := ⟨_, List.getElem?_eq_getElem hq⟩
      obtain ⟨g1, o1, c1, e1, hc⟩ := HR.out.at (by omega)
      simp only [Value.slice.injEq] at e1
      obtain ⟨rfl, -, rfl⟩ := e1
      have t0 := hc q k hk
      have hq' : (q : Int) < (l.length : Int) := by omega
      have hno : (vd A.length i k && !f k.toNat) = false → ((l.take (q + 1)).any fun k => vd A.length i k && !f k.toNat) = false := fun hv => by
        rw [List.take_add_one, hk, List.any_append, HN.out]
        simp [hv]
      have hyes : (vd A.length i k && !f k.toNat) = true → (l.any fun k => vd A.length i k && !f k.toNat) = true := fun hv => List.any_eq_true.2 ⟨k, List.mem_of_getElem? hk, hv⟩
      have HNo := Lib.hid hno
      have HYes := Lib.hid hyes
      clear hno hyes hk hc
      by_cases k0 : 0 ≤ k
      · by_cases k1 : k < (A.length : Int)
        · by_cases k2 : k = (i : Int)
          · have e2 : (k != (i : Int)) = false := by simp [k2]
            have HK := Lib.hid k2
            clear k2
            go_wp2
            go_roundg g
            case measure => omega
            case rel => exact ⟨q + 1, by omega, by simp, HNo.out (by simp [vd, HK.out]), rfl⟩
          · have e2 : (k != (i : Int)) = true := by simp [k2]
            have HK := Lib.hid k2
            clear k2
            obtain ⟨n, rfl⟩ := Int.eq_ofNat_of_zero_le k0
            have t1 := HF.out.c n (by omega)
            have hvd : vd A.length i (n : Int) = true := by
              unfold vd
              rw [decide_eq_true k0, decide_eq_true k1, decide_eq_true HK.out]
              rfl
            have HV := Lib.hid hvd
            clear hvd
            cases hfn : f n with
            | true =>
              rw [hfn] at t1
              have HFN := Lib.hid hfn
              clear hfn
              go_wp2
              go_roundg g
              case measure => omega
              case rel => exact ⟨q + 1, by omega, by simp, HNo.out (by simp [HFN.out]), rfl⟩
            | false =>
              rw [hfn] at t1
              have HFN := Lib.hid hfn
              clear hfn
              go_wp2
              go_ret
              exact ⟨ret_b (HYes.out (by rw [HV.out]; simp [HFN.out])).symm, rfl⟩
        · have HK := Lib.hid (show (vd A.length i k && !f k.toNat) = false by unfold vd; rw [decide_eq_false k1]; simp)
          go_wp2
          go_roundg g
          case measure => omega
          case rel => exact ⟨q + 1, by omega, by simp, HNo.out HK.out, rfl⟩
      · have HK := Lib.hid (show (vd A.length i k && !f k.toNat) = false by unfold vd; rw [decide_eq_false k0]; simp)
        go_wp2
        go_roundg g
        case measure => omega
        case rel => exact ⟨q + 1, by omega, by simp, HNo.out HK.out, rfl⟩
end Go.Proofs.Ytblpafmcnhhdpaa
