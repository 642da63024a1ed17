/- Runs of a class, lines, comments: the package's small loops over bytes; what is asked: the bytes lie in memory. -/
import Derived.Test.YteohpiamfpnofabDoorSb
import Derived.Test.YteohpiamfpnofabDoorShelf
import Derived.ScopeJumps
import Derived.WideShapes
namespace Go.Proofs.YteohpiamfpnofabDoor
open Go.RowKit

theorem drop_cons_of {l : Bs} {i : Nat} (h : i < l.length) : l.drop i = l[i] :: l.drop (i + 1) := List.drop_eq_getElem_cons h

set_option maxHeartbeats 1000000 in
theorem run_any (P : UInt8 → Bool) (m : Nat) (hP : ∀ x : UInt8, (bits BinOp.and IntKind.u8 (cls x : Nat) (m : Nat) != 0) = P x) (b o c p : Nat) (l : Bs) (w : World) (hl : Byt w b o l) (hp : p ≤ l.length) (hs : l.length ≤ 65536) :
    Calls Tryd.prog 21 #[.slice (some ⟨b, o, none⟩) l.length c, .int .i64 p, .int .u8 m] w fun e w' => e = .returned (.int .i64 (p + ((l.drop p).takeWhile P).length : Nat)) ∧ w' = w := by
  obtain ⟨n, hn⟩ : ∃ n, l.length = n := ⟨_, rfl⟩
  rw [hn]
  have HN := Lib.hid hn
  obtain ⟨z, hz⟩ : ∃ z : Nat, p + ((l.drop p).takeWhile P).length = z := ⟨_, rfl⟩
  rw [hz]
  have HL := Lib.hid hl
  have HP := Lib.hid hP
  rw [hn] at hp hs
  clear hl hP hn
  go_enter Tryd.func21, Tryd.ntmps21
  go_wp2
  go_loopg [1] (n - p) (fun gk s1 wx => ∃ j : Nat, p ≤ j ∧ j + gk = n ∧ s1 = .int .i64 j ∧ z = j + ((l.drop j).takeWhile P).length ∧ wx = w)
  case atStart => exact ⟨p, Nat.le_refl _, by omega, rfl, hz.symm, rfl⟩
  case round =>
    obtain ⟨j, hpj, hjg, rfl, hq, rfl⟩ := hrel
    clear hz
    have HQ := Lib.hid hq
    clear hq
    cases gk with
    | zero =>
      obtain rfl : j = n := by omega
      go_wp2
      go_ret
      have h := HQ.out
      rw [List.drop_eq_nil_of_le (Nat.le_of_eq HN.out)] at h
      exact ⟨ret_i (by simp at h; omega), rfl⟩
    | succ gq =>
      have hj : j < l.length := by have := HN.out; omega
      have hj' : ((j : Nat) : Int) < n := by omega
      have c1 := HL.out j hj
      have HD := Lib.hid (drop_cons_of hj)
      generalize l[j] = x at c1 HD
      go_wp2_with (go_at_call 11; refine (classOf_any x _).mono ?_; rintro e w' ⟨rfl, rfl⟩)
      · rename_i hb
        rw [HP.out] at hb
        go_roundg gq
        case measure => omega
        case rel =>
          refine ⟨j + 1, by omega, by omega, by first | rfl | rw [wrap64_nat (by omega)] | simp, ?_, rfl⟩
          rw [HQ.out, HD.out, List.takeWhile_cons, if_pos hb, List.length_cons]; omega
      · rename_i hb
        rw [HP.out] at hb
        go_ret
        refine ⟨ret_i ?_, rfl⟩
        rw [HQ.out, HD.out, List.takeWhile_cons, if_neg (by rw [hb]; decide)]; simp

theorem byt_row {w : World} {b o : Nat} {l : Bs} (h : Byt w b o l) (p : Nat) : ∀ i, i < l.length - p → w.cell? ((⟨b, o + p, none⟩ : Addr).add i) = some (.int .u8 ((nums (l.drop p)).getD i 0)) := fun i hi => by
  rw [nums_get _ _ (by simp; omega)]
  have := h.drop p i (by simp; omega)
  rw [WideShapes.add_plain]
  exact this

theorem indexByte_line : ∀ l : Bs, ((lineN l = l.length) ∧ Lib.indexByte l 10 = -1) ∨ (lineN l < l.length ∧ Lib.indexByte l 10 = (lineN l : Int))
  | [] => .inl ⟨rfl, rfl⟩
  | x :: l => by
    by_cases hx : x = 10
    · subst hx
      exact .inr ⟨by simp [lineN], by simp [Lib.indexByte, lineN]⟩
    · have hx' : (x == 10) = false := by simpa using hx
      have hn : x.toNat ≠ 10 := fun h => hx (UInt8.toNat_inj.1 h)
      have e : lineN (x :: l) = lineN l + 1 := by simp [lineN, hn]
      rcases indexByte_line l with ⟨h1, h2⟩ | ⟨h1, h2⟩
      · exact .inl ⟨by rw [e, h1]; rfl, by simp [Lib.indexByte, hx', h2]⟩
      · refine .inr ⟨by rw [e]; simp; omega, ?_⟩
        rw [Lib.indexByte, hx', h2, e]
        have : ((lineN l : Int) == -1) = false := by simp
        simp [this]

set_option maxHeartbeats 1000000 in
theorem passLine_any (b o c p : Nat) (l : Bs) (w : World) (hl : Byt w b o l) (hp : p < l.length) (hs : l.length ≤ 65536) (hc : l.length ≤ c) :
    Calls Tryd.prog 12 #[.slice (some ⟨b, o, none⟩) l.length c, .int .i64 p] w fun e w' => e = .returned (.int .i64 (p + lineN (l.drop p) : Nat)) ∧ w' = w := by
  have K := Lib.hid (fun cc => Tryd.bytes_IndexByte_at ⟨b, o + p, none⟩ (l.length - p) cc (nums (l.drop p)) 10 w (by rw [nums_len]; simp) (byt_row hl p))
  have hI := Lib.hid (indexByte_line (l.drop p))
  have hll : (l.drop p).length = l.length - p := by simp
  generalize l.drop p = d at K hI hll
  obtain ⟨n, hn⟩ : ∃ n, l.length = n := ⟨_, rfl⟩
  rw [hn] at hp hs hc hll K ⊢
  clear hn hl
  go_enter Tryd.func12, Tryd.ntmps12
  go_wp2_with (go_at_call 19; refine (K.out _).mono ?_; rintro e w' ⟨rfl, rfl⟩; rw [nums_bytes])
  · rename_i h
    go_ret
    refine ⟨ret_i ?_, rfl⟩
    rcases hI.out with ⟨_, h2⟩ | ⟨h1, h2⟩
    · omega
    · rw [h2, show wrap64 ((p : Int) + (lineN d : Int)) = ((p + lineN d : Nat) : Int) by simp only [wrap64]; omega]
  · rename_i h
    go_ret
    refine ⟨ret_i ?_, rfl⟩
    rcases hI.out with ⟨h1, _⟩ | ⟨_, h2⟩
    · rw [h1, hll]; omega
    · omega

theorem cEnd_two (r : Bs) (h : r.length < 2) : cEnd r = none := by
  match r, h with
  | [], _ => rfl
  | [a], _ => simp [cEnd]

/-- What holds where a comment that does not end is left. -/
def CJ (v0 v1 : Value) (w : World) (z : Nat) (a' : Act) (w' : World) : Prop :=
  w' = w ∧ z = 0 ∧ ∃ u4 u5 u6 u7 u8 u9 u10 u11 u12 u13 u14 u15 u16 u17 u18 u19 u20 u21 u22 u23 u24 u25 u26 u27 u28 : Value, a' = { tmps := #[v0, v1, undef, undef, u4, u5, u6, u7, u8, u9, u10, u11, u12, u13, u14, u15, u16, u17, u18, u19, u20, u21, u22, u23, u24, u25, u26, u27, u28], defers := [] }
theorem CJ.mk {v0 v1 : Value} {w : World} {z : Nat} {u4 u5 u6 u7 u8 u9 u10 u11 u12 u13 u14 u15 u16 u17 u18 u19 u20 u21 u22 u23 u24 u25 u26 u27 u28 : Value} (h : z = 0) : CJ v0 v1 w z { tmps := #[v0, v1, undef, undef, u4, u5, u6, u7, u8, u9, u10, u11, u12, u13, u14, u15, u16, u17, u18, u19, u20, u21, u22, u23, u24, u25, u26, u27, u28], defers := [] } w := ⟨rfl, h, u4, u5, u6, u7, u8, u9, u10, u11, u12, u13, u14, u15, u16, u17, u18, u19, u20, u21, u22, u23, u24, u25, u26, u27, u28, rfl⟩

set_option maxHeartbeats 1000000 in
theorem passComment_any (b o c p : Nat) (l : Bs) (w : World) (hl : Byt w b o l) (hp : p + 2 ≤ l.length) (hs : l.length ≤ 65536) :
    Calls Tryd.prog 14 #[.slice (some ⟨b, o, none⟩) l.length c, .int .i64 p] w fun e w' => e = .returned (.int .i64 ((match cEnd (l.drop (p + 2)) with | none => 0 | some k => p + 2 + k : Nat) : Int)) ∧ w' = w := by
  obtain ⟨n, hn⟩ : ∃ n, l.length = n := ⟨_, rfl⟩
  rw [hn]
  have HN := Lib.hid hn
  obtain ⟨z, hz⟩ : ∃ z : Nat, (match cEnd (l.drop (p + 2)) with | none => 0 | some k => p + 2 + k) = z := ⟨_, rfl⟩
  rw [hz]
  have HL := Lib.hid hl
  have HZ := Lib.hid hz
  rw [hn] at hp hs
  clear hl hn hz
  go_enter Tryd.func14, Tryd.ntmps14
  go_wp2
  refine wp_scope_jumps 0 (CJ (.slice (some ⟨b, o, none⟩) n c) (.int .i64 p) w z) (fun _ _ => 0) rfl ?_ ?_
  · go_wp2
    go_loopg [5] (n - p) (fun gk s5 wx => ∃ j : Nat, j ≤ n - p ∧ j + gk = n - p ∧ s5 = .int .i64 ((p + 4 + j : Nat) : Int) ∧ z = (match cEnd (l.drop (p + 2 + j)) with | none => 0 | some k => p + 2 + j + k) ∧ wx = w)
    case atStart => exact ⟨0, by omega, by omega, by first | rfl | simp, HZ.out.symm, rfl⟩
    case round =>
      obtain ⟨j, hjn, hjg, rfl, hq, rfl⟩ := hrel
      have HQ := Lib.hid hq
      clear hq
      by_cases hj : p + 4 + j ≤ n
      · obtain ⟨gq, rfl⟩ : ∃ gq, gk = gq + 1 := ⟨gk - 1, by omega⟩
        have h1 : p + 2 + j < l.length := by have := HN.out; omega
        have h2 : p + 3 + j < l.length := by have := HN.out; omega
        have c1 := HL.out _ h1
        have c2 := HL.out _ h2
        have HD := Lib.hid (drop_cons_of h1)
        have HD2 := Lib.hid (drop_cons_of h2)
        generalize l[p + 2 + j] = x at c1 HD
        generalize l[p + 3 + j] = y at c2 HD2
        have i1 : ((p + 4 + j : Nat) : Int) - 2 = ((p + 2 + j : Nat) : Int) := by omega
        have i2 : ((p + 4 + j : Nat) : Int) - 1 = ((p + 3 + j : Nat) : Int) := by omega
        obtain ⟨A, hA⟩ : ∃ A, p + 2 + j = A := ⟨_, rfl⟩
        obtain ⟨B, hB⟩ : ∃ A, p + 3 + j = A := ⟨_, rfl⟩
        obtain ⟨C, hC⟩ : ∃ A, p + 4 + j = A := ⟨_, rfl⟩
        rw [hA] at c1 i1
        rw [hB] at c2 i2
        rw [hC] at i1 i2 hj ⊢
        have hA' : A < n := by omega
        have hB' : B < n := by omega
        have H := Lib.hid (And.intro hA (And.intro hB hC))
        clear hA hB hC
        go_wp2
        · rename_i g1 g2 g3
          simp only [Exit.jump]
          go_ret
          refine ⟨ret_i ?_, rfl⟩
          obtain ⟨rfl, rfl, rfl⟩ := H.out
          have e : cEnd (l.drop (p + 2 + j)) = some 2 := by
            rw [HD.out, show p + 2 + j + 1 = p + 3 + j by omega, HD2.out, cEnd, if_pos]
            refine ⟨by omega, ?_⟩
            simp only [List.head?_cons, Option.some.injEq]
            apply UInt8.toNat_inj.1
            simp only [beq_iff_eq] at g3
            show y.toNat = 47
            omega
          rw [HQ.out, e]
          show ((p + 4 + j : Nat) : Int) = ((p + 2 + j + 2 : Nat) : Int)
          omega
        · rename_i g1 g2 g3
          obtain ⟨rfl, rfl, rfl⟩ := H.out
          go_roundg gq
          case measure => omega
          case rel =>
            refine ⟨j + 1, by omega, by omega, by first | rfl | (congr 1; omega), ?_, rfl⟩
            have e : cEnd (l.drop (p + 2 + j)) = (cEnd (l.drop (p + 2 + (j + 1)))).map (· + 1) := by
              rw [HD.out, cEnd, if_neg, show p + 2 + j + 1 = p + 2 + (j + 1) by omega]
              rintro ⟨_, h⟩
              rw [show p + 2 + j + 1 = p + 3 + j by omega, HD2.out] at h
              simp only [List.head?_cons, Option.some.injEq] at h
              subst h
              simp at g3
            rw [HQ.out, e]
            cases cEnd (l.drop (p + 2 + (j + 1))) with
            | none => rfl
            | some k =>
              show (p + 2 + j + (k + 1) : Nat) = p + 2 + (j + 1) + k
              omega
        · rename_i g1 g2
          obtain ⟨rfl, rfl, rfl⟩ := H.out
          go_roundg gq
          case measure => omega
          case rel =>
            refine ⟨j + 1, by omega, by omega, by first | rfl | (congr 1; omega), ?_, rfl⟩
            have e : cEnd (l.drop (p + 2 + j)) = (cEnd (l.drop (p + 2 + (j + 1)))).map (· + 1) := by
              rw [HD.out, cEnd, if_neg, show p + 2 + j + 1 = p + 2 + (j + 1) by omega]
              rintro ⟨h, _⟩
              omega
            rw [HQ.out, e]
            cases cEnd (l.drop (p + 2 + (j + 1))) with
            | none => rfl
            | some k =>
              show (p + 2 + j + (k + 1) : Nat) = p + 2 + (j + 1) + k
              omega
      · have hz0 : z = 0 := by
          rw [HQ.out, cEnd_two]
          have := HN.out
          simp; omega
        clear HQ HZ
        go_wp2
        go_step3
        exact ⟨rfl, CJ.mk hz0⟩
  · rintro a' w' ⟨rfl, hz0, u4, u5, u6, u7, u8, u9, u10, u11, u12, u13, u14, u15, u16, u17, u18, u19, u20, u21, u22, u23, u24, u25, u26, u27, u28, rfl⟩
    go_wp2
    simp only [Exit.jump]
    go_ret
    exact ⟨ret_i (by omega), rfl⟩
end Go.Proofs.YteohpiamfpnofabDoor
