/- The document's own answer: skip; what is asked: the bytes lie in memory, at most 65536. -/
import Derived.Test.YtbkakdmkabhcnaaDoorRb
namespace Go.Proofs.YtbkakdmkabhcnaaDoor
open Go.RowKit Go.Maps

/-- What skip answers at a place. -/
def rsk (p : Nat) (T : Option Nat) : Int := T.elim (-1) fun k => ((p + k : Nat) : Int)
theorem cEnd_0 : cEnd [] = none := rfl
theorem cEnd_1 (a : UInt8) : cEnd [a] = none := by simp [cEnd]
theorem cEnd_2 (a d : UInt8) (t : Bs) : cEnd (a :: d :: t) = if a.toNat = 42 ∧ d.toNat = 47 then some 2 else (cEnd (d :: t)).map (· + 1) := by
  conv => lhs; unfold cEnd
  have : ((d :: t).head? = some 47) = (d.toNat = 47) := by
    simp only [List.head?_cons, Option.some.injEq, eq_iff_iff]
    exact ⟨fun h => by rw [h]; rfl, fun h => UInt8.toNat_inj.1 h⟩
  simp only [this]

set_option maxRecDepth 100000 in
set_option maxHeartbeats 1200000 in
theorem rskip_any (b o c p : Nat) (l : Bs) (w : World) (hl : Byt w b o l) (hp : p < l.length) (hs : l.length ≤ 65536) :
    Calls Tryd.prog 9 #[.slice (some ⟨b, o, none⟩) l.length c, .int .i64 p] w fun e w' => e = .returned (.int .i64 (rsk p (skip (l.drop p)))) ∧ w' = w := by
  obtain ⟨n, hn⟩ : ∃ n, l.length = n := ⟨_, rfl⟩
  have HN := Lib.hid hn
  have HL := Lib.hid hl
  have c1 := hl p hp
  have HD := Lib.hid (drop_cons_of hp)
  obtain ⟨T, hT⟩ : ∃ T, skip (l.drop p) = T := ⟨_, rfl⟩
  rw [hT]
  have HT : Hid (T = skip (l[p] :: l.drop (p + 1))) := by show T = _; rw [← hT, HD.out]
  clear hT
  rw [hn] at hp hs ⊢
  have hp' : ((p : Nat) : Int) < n := by omega
  generalize l[p] = x at c1 HD HT
  have KB := Lib.hid (blank_any x)
  clear hl hn
  by_cases hb : blk x = true
  · rw [hb] at KB
    have HT0 : Hid (T = some 1) := by show T = _; rw [HT.out, skip, if_pos hb]
    clear HT HD HL
    go_enter Tryd.func9, Tryd.ntmps9
    go_wp2_with (first | (go_at_call 22; refine (KB.out _).mono ?_; rintro e w2 ⟨rfl, rfl⟩))
    go_ret
    refine ⟨ret_i ?_, rfl⟩
    rw [HT0.out]
    first | rfl | (simp [rsk])
  · have hb' : blk x = false := by simpa using hb
    rw [hb'] at KB
    by_cases h35 : x.toNat = 35
    · have q1 : ((x.toNat : Int) == 35) = true := by simp [h35]
      have HT0 : Hid (T = some (0 + lineN (l.drop p))) := by show T = _; rw [HT.out, skip, if_neg hb, if_pos h35, HD.out, Nat.zero_add]
      clear HT HD h35
      go_enter Tryd.func9, Tryd.ntmps9
      go_wp2_with (first | (go_at_call 22; refine (KB.out _).mono ?_; rintro e w2 ⟨rfl, rfl⟩))
      go_loopg [1] (n - p) (fun gk s1 wx => ∃ j : Nat, p ≤ j ∧ j + gk = n ∧ s1 = .int .i64 j ∧ T = some (j - p + lineN (l.drop j)) ∧ wx = w2)
      case atStart => exact ⟨p, Nat.le_refl _, by omega, rfl, by rw [Nat.sub_self]; exact HT0.out, rfl⟩
      case round =>
        obtain ⟨j, hpj, hjg, rfl, hq, rfl⟩ := hrel
        have HQ := Lib.hid hq
        clear hq HT0
        cases gk with
        | zero =>
          obtain rfl : j = n := by omega
          go_wp2
          go_ret
          refine ⟨ret_i ?_, rfl⟩
          rw [HQ.out, List.drop_eq_nil_of_le (Nat.le_of_eq HN.out)]
          simp [rsk, lineN]; omega
        | succ gq =>
          have hj : j < l.length := by have := HN.out; omega
          have hj' : ((j : Nat) : Int) < n := by omega
          have c2 := HL.out j hj
          have HD := Lib.hid (drop_cons_of hj)
          generalize l[j] = y at c2 HD
          by_cases h10 : y.toNat = 10
          · have q2 : ((y.toNat : Int) == 10) = true := by simp [h10]
            have q3 : ((y.toNat : Int) != 10) = false := by simp [h10]
            have HE : Hid (lineN (l.drop j) = 0) := by show lineN _ = 0; rw [HD.out]; simp [lineN, h10]
            go_wp2
            go_ret
            refine ⟨ret_i ?_, rfl⟩
            rw [HQ.out, HE.out]
            simp [rsk]; omega
          · have q2 : ((y.toNat : Int) == 10) = false := by simp; omega
            have q3 : ((y.toNat : Int) != 10) = true := by simp; omega
            have HE : Hid (lineN (l.drop j) = lineN (l.drop (j + 1)) + 1) := by show lineN _ = _; rw [HD.out]; simp [lineN, h10]
            go_wp2
            go_roundg gq
            case measure => omega
            case rel => exact ⟨j + 1, by omega, by omega, by first | rfl | simp, by rw [HQ.out, HE.out]; congr 1; omega, rfl⟩
    · have q1 : ((x.toNat : Int) == 35) = false := by simp; omega
      by_cases h47 : x.toNat = 47
      · have q2 : ((x.toNat : Int) == 47) = true := by simp [h47]
        have q3 : ((x.toNat : Int) != 47) = false := by simp [h47]
        by_cases hn1 : p + 1 = n
        · have HT0 : Hid (T = some 0) := by show T = _; rw [HT.out, List.drop_eq_nil_of_le (by rw [HN.out]; omega), skip, if_neg hb, if_neg h35, if_neg (by simp)]
          have q4 : ((p : Int) + 1 == n) = true := by rw [beq_iff_eq]; omega
          clear HT HD HL h47
          go_enter Tryd.func9, Tryd.ntmps9
          go_wp2_with (first | (go_at_call 22; refine (KB.out _).mono ?_; rintro e w2 ⟨rfl, rfl⟩))
          go_ret
          refine ⟨ret_i ?_, rfl⟩
          rw [HT0.out]
          first | rfl | (simp [rsk])
        · have q4 : ((p : Int) + 1 == n) = false := by rw [beq_eq_false_iff_ne]; omega
          have hp1 : p + 1 < l.length := by rw [HN.out]; omega
          have hp1' : (p : Int) + 1 < n := by omega
          have c2 := HL.out (p + 1) hp1
          have HD1 := Lib.hid (drop_cons_of hp1)
          generalize l[p + 1] = y at c2 HD1
          by_cases h42 : y.toNat = 42
          · have q5 : ((y.toNat : Int) == 42) = true := by simp [h42]
            have q6 : ((y.toNat : Int) != 42) = false := by simp [h42]
            have HT0 : Hid (T = (cEnd (l.drop (p + 2))).map (· + (p + 2 - p))) := by
              show T = _
              rw [HT.out, HD1.out, skip, if_neg hb, if_neg h35, if_pos ⟨h47, by simp; exact UInt8.toNat_inj.1 h42⟩, List.tail_cons, show p + 2 - p = 2 by omega]
            clear HT HD HD1 h47 h42
            go_enter Tryd.func9, Tryd.ntmps9
            go_wp2_with (first | (go_at_call 22; refine (KB.out _).mono ?_; rintro e w2 ⟨rfl, rfl⟩))
            go_loopg [5] (n - (p + 2)) (fun gk s5 wx => ∃ j : Nat, p + 2 ≤ j ∧ j + gk = n ∧ s5 = .int .i64 j ∧ T = (cEnd (l.drop j)).map (· + (j - p)) ∧ wx = w2)
            case atStart => exact ⟨p + 2, Nat.le_refl _, by omega, by first | rfl | simp, HT0.out, rfl⟩
            case round =>
              obtain ⟨j, hpj, hjg, rfl, hq, rfl⟩ := hrel
              have HQ := Lib.hid hq
              clear hq HT0 c1 c2
              by_cases hj1 : j + 1 < n
              · have hj : j < l.length := by have := HN.out; omega
                have hj2 : j + 1 < l.length := by have := HN.out; omega
                have hj' : ((j : Nat) : Int) < n := by omega
                have hj'' : ((j : Nat) : Int) + 1 < n := by omega
                have c3 := HL.out j hj
                have c4 := HL.out (j + 1) hj2
                have HD := Lib.hid (drop_cons_of hj)
                have HD2 := Lib.hid (drop_cons_of hj2)
                generalize l[j] = u at c3 HD
                generalize l[j + 1] = v at c4 HD2
                have HE : Hid (cEnd (l.drop j) = if u.toNat = 42 ∧ v.toNat = 47 then some 2 else (cEnd (l.drop (j + 1))).map (· + 1)) := by
                  show _ = _
                  rw [HD.out, HD2.out, cEnd_2]
                clear HD HD2
                by_cases hu : u.toNat = 42
                · have r1 : ((u.toNat : Int) == 42) = true := by simp [hu]
                  by_cases hv : v.toNat = 47
                  · have r2 : ((v.toNat : Int) == 47) = true := by simp [hv]
                    have HF : Hid (T = some (2 + (j - p))) := by show T = _; rw [HQ.out, HE.out, if_pos ⟨hu, hv⟩]; rfl
                    go_wp2
                    go_ret
                    refine ⟨ret_i ?_, rfl⟩
                    rw [HF.out]
                    simp [rsk]; omega
                  · have r2 : ((v.toNat : Int) == 47) = false := by simp; omega
                    have HF : Hid (T = (cEnd (l.drop (j + 1))).map (· + (j + 1 - p))) := by
                      show T = _
                      rw [HQ.out, HE.out, if_neg (fun h => hv h.2)]
                      cases cEnd (l.drop (j + 1)) with
                      | none => rfl
                      | some k => simp; omega
                    go_wp2
                    go_roundg (n - (j + 1))
                    case measure => omega
                    case rel => exact ⟨j + 1, by omega, by omega, by first | rfl | simp, HF.out, rfl⟩
                · have r1 : ((u.toNat : Int) == 42) = false := by simp; omega
                  have HF : Hid (T = (cEnd (l.drop (j + 1))).map (· + (j + 1 - p))) := by
                    show T = _
                    rw [HQ.out, HE.out, if_neg (fun h => hu h.1)]
                    cases cEnd (l.drop (j + 1)) with
                    | none => rfl
                    | some k => simp; omega
                  go_wp2
                  go_roundg (n - (j + 1))
                  case measure => omega
                  case rel => exact ⟨j + 1, by omega, by omega, by first | rfl | simp, HF.out, rfl⟩
              · have hj' : ¬ ((j : Nat) : Int) + 1 < n := by omega
                have HF : Hid (T = none) := by
                  show T = none
                  have hlen : (l.drop j).length < 2 := by rw [List.length_drop, HN.out]; omega
                  rw [HQ.out]
                  match l.drop j, hlen with
                  | [], _ => rfl
                  | [z], _ => rw [cEnd_1]; rfl
                go_wp2
                go_ret
                refine ⟨ret_i ?_, rfl⟩
                rw [HF.out]
                rfl
          · have q5 : ((y.toNat : Int) == 42) = false := by simp; omega
            have q6 : ((y.toNat : Int) != 42) = true := by simp; omega
            have HT0 : Hid (T = some 0) := by
              show T = _
              rw [HT.out, HD1.out, skip, if_neg hb, if_neg h35, if_neg (fun h => h42 (by have := h.2; simp at this; rw [this]; rfl))]
            clear HT HD HL HD1 h47
            go_enter Tryd.func9, Tryd.ntmps9
            go_wp2_with (first | (go_at_call 22; refine (KB.out _).mono ?_; rintro e w2 ⟨rfl, rfl⟩))
            go_ret
            refine ⟨ret_i ?_, rfl⟩
            rw [HT0.out]
            first | rfl | (simp [rsk])
      · have q2 : ((x.toNat : Int) == 47) = false := by simp; omega
        have q3 : ((x.toNat : Int) != 47) = true := by simp; omega
        have HT0 : Hid (T = some 0) := by show T = _; rw [HT.out, skip, if_neg hb, if_neg h35, if_neg (fun h => h47 h.1)]
        clear HT HD HL
        go_enter Tryd.func9, Tryd.ntmps9
        go_wp2_with (first | (go_at_call 22; refine (KB.out _).mono ?_; rintro e w2 ⟨rfl, rfl⟩))
        go_ret
        refine ⟨ret_i ?_, rfl⟩
        rw [HT0.out]
        first | rfl | (simp [rsk])
end Go.Proofs.YtbkakdmkabhcnaaDoor
