/- passGap: past blanks and comments; what is asked: the bytes lie in memory. -/
import Derived.Test.YteohpiamfpnofabDoorSc
import Derived.Lib.SlBytesConst
namespace Go.Proofs.YteohpiamfpnofabDoor
open Go.RowKit

theorem und22 : Tryd.prog.underlying 22 = some (.slice 5) := by kernel_rfl
theorem und5 : Tryd.prog.underlying 5 = some (.int .u8) := by kernel_rfl
theorem und9 : Tryd.prog.underlying 9 = some .string := by kernel_rfl

/-- Bytes that lie somewhere, if there are any. -/
theorem byt_in {w : World} {b o : Nat} {l : Bs} (h : Byt w b o l) : Lib.BytesIn w (some ⟨b, o, none⟩) l.length (nums l) := fun _ => ⟨b, o, rfl, fun i hi => by rw [nums_get _ _ hi]; exact h i hi⟩

theorem pre_com (r : Bs) : Lib.hasPrefix r [47, 42] = decide ((r.head?.map UInt8.toNat) = some 47 ∧ r.tail.head? = some 42) := by
  match r with
  | [] => rfl
  | [a] => simp [Lib.hasPrefix, List.isPrefixOf]
  | a :: b :: t =>
    simp only [Lib.hasPrefix, List.isPrefixOf, List.head?_cons, Option.map_some, List.tail_cons, Option.some.injEq]
    rw [Bool.eq_iff_iff]
    simp only [Bool.and_eq_true, beq_iff_eq, decide_eq_true_eq, and_true]
    constructor
    · rintro ⟨rfl, rfl⟩; exact ⟨rfl, rfl⟩
    · rintro ⟨h1, rfl⟩; exact ⟨(UInt8.toNat_inj.1 h1).symm, rfl⟩

theorem skip_blank {x : UInt8} {t : Bs} (h : cls x = 4) : skip (x :: t) = some 1 := by
  have : blk x = true := by
    unfold cls at h
    repeat' (split at h)
    all_goals first | assumption | omega
  simp [skip, this]
theorem not_blank {x : UInt8} (h : cls x ≠ 4) : blk x = true → dig x = true ∨ ltr x = true := by
  intro hb
  unfold cls at h
  by_cases h1 : dig x = true
  · exact .inl h1
  · by_cases h2 : ltr x = true
    · exact .inr h2
    · simp [h1, h2, hb] at h
theorem cls_blank {x : UInt8} (h : cls x ≠ 4) : blk x = false := by
  cases hb : blk x with
  | false => rfl
  | true =>
    exfalso
    have hb' := hb
    unfold blk at hb'
    simp only [decide_eq_true_eq] at hb'
    rcases not_blank h hb with h1 | h1
    · unfold dig at h1; simp only [decide_eq_true_eq] at h1; omega
    · unfold ltr at h1; simp only [decide_eq_true_eq] at h1; omega
theorem skip_line {x : UInt8} {t : Bs} (h : cls x ≠ 4) (hx : x.toNat = 35) : skip (x :: t) = some (lineN (x :: t)) := by
  simp [skip, cls_blank h, hx]
theorem skip_com {x : UInt8} {t : Bs} (h : cls x ≠ 4) (hp : Lib.hasPrefix (x :: t) [47, 42] = true) : skip (x :: t) = (cEnd t.tail).map (· + 2) := by
  rw [pre_com] at hp
  simp only [List.head?_cons, Option.map_some, List.tail_cons, Option.some.injEq, decide_eq_true_eq] at hp
  simp [skip, cls_blank h, hp.1, hp.2]
theorem skip_none {x : UInt8} {t : Bs} (h : cls x ≠ 4) (hx : x.toNat ≠ 35) (hp : Lib.hasPrefix (x :: t) [47, 42] = false) : skip (x :: t) = some 0 := by
  rw [pre_com] at hp
  simp only [List.head?_cons, Option.map_some, List.tail_cons, Option.some.injEq, decide_eq_false_iff_not] at hp
  simp [skip, cls_blank h, hx, hp]

theorem cell_new (w : World) (cs : Array Value) (t : TypeId) (f : Nat × Nat) (i : Nat) : (w.alloc (.cells cs t f)).cell? ⟨w.heap.size, i, none⟩ = cs[i]? := by
  have h : (w.alloc (.cells cs t f)).heap[w.heap.size]? = some (.cells cs t f) := heap_alloc_new w _
  simp only [World.cell?, h]
  rfl

/-- Where passGap ends. -/
def Gap (l : Bs) (p j : Nat) (err : Int) : Prop := p ≤ j ∧ ((err = 0 ∧ j ≤ l.length ∧ (j = l.length ∨ skip (l.drop j) = some 0)) ∨ (err = 62 ∧ j < l.length ∧ skip (l.drop j) = none)) ∧ ∀ acc, ans (l.drop p) p acc = ans (l.drop j) j acc

theorem lineN_pos {x : UInt8} {t : Bs} (hx : x.toNat = 35) : 0 < lineN (x :: t) := by
  unfold lineN
  rw [List.takeWhile_cons, if_pos (by simp [hx])]
  simp
theorem gap_on {l : Bs} {p j k : Nat} {acc : List Tok} (h : ans (l.drop p) p acc = ans (l.drop j) j acc) (hk : skip (l.drop j) = some k) (h0 : 0 < k) : ans (l.drop p) p acc = ans (l.drop (j + k)) (j + k) acc := by
  obtain ⟨m, rfl⟩ : ∃ m, k = m + 1 := ⟨k - 1, by omega⟩
  rw [h, ans_skip hk, List.drop_drop]

set_option maxRecDepth 100000 in
set_option maxHeartbeats 2000000 in
theorem passGap_any (b o c p : Nat) (l : Bs) (w : World) (hl : Byt w b o l) (hb : b < w.heap.size) (hp : p ≤ l.length) (hs : l.length ≤ 65536) (hc : l.length ≤ c) :
    Calls Tryd.prog 6 #[.slice (some ⟨b, o, none⟩) l.length c, .int .i64 p] w fun e w' => ∃ (j : Nat) (err : Int), e = .returned (.tuple #[.int .i64 j, .int .i64 err]) ∧ Gap l p j err ∧ Below w.heap.size w w' := by
  obtain ⟨n, hn⟩ : ∃ n, l.length = n := ⟨_, rfl⟩
  rw [hn]
  have HN := Lib.hid hn
  have HL := Lib.hid hl
  have HB := Lib.hid hb
  rw [hn] at hp hs hc
  clear hl hn hb
  have kc := fun (w : World) (C : Array Value) (n c : Nat) => Lib.run_convert_bytes_const (P := Tryd.prog) w 22 5 C n c und22 und5
  go_enter Tryd.func6, Tryd.ntmps6
  go_wp2
  go_loopg [1] (n - p) (fun gk s1 wx => ∃ j : Nat, p ≤ j ∧ j ≤ n ∧ gk = n - j ∧ s1 = .int .i64 j ∧ (∀ acc, ans (l.drop p) p acc = ans (l.drop j) j acc) ∧ Below w.heap.size w wx)
  case atStart => exact ⟨p, Nat.le_refl _, hp, rfl, rfl, fun _ => rfl, Below.refl _ _⟩
  case round =>
    obtain ⟨j, hpj, hjn, rfl, rfl, hq, hbw⟩ := hrel
    have HQ := Lib.hid hq
    have HW := Lib.hid hbw
    clear hq hbw
    by_cases hj : j = n
    · subst hj
      go_wp2
      go_ret2
      exact ⟨j, 0, rfl, ⟨hpj, .inl ⟨rfl, by have := HN.out; omega, .inl HN.out.symm⟩, HQ.out⟩, HW.out⟩
    · have hj1 : j < l.length := by have := HN.out; omega
      have hj' : ((j : Nat) : Int) < n := by omega
      have HC := Lib.hid (HL.out.below HW.out HB.out)
      have c1 := HC.out j hj1
      have HD := Lib.hid (drop_cons_of hj1)
      generalize l[j] = x at c1 HD
      have hwb : b < wr.heap.size := Nat.lt_of_lt_of_le HB.out HW.out.size
      have KL := Lib.hid (passLine_any b o c j l wr HC.out hj1 (by have := HN.out; omega) (by have := HN.out; omega))
      obtain ⟨W2, hW2⟩ : ∃ W2, W2 = wr.alloc (.cells #[.int .u8 47, .int .u8 42] 5 (2, 3)) := ⟨_, rfl⟩
      have hB2 : Below wr.heap.size wr W2 := by rw [hW2]; exact below1 _ _
      have HC2 := Lib.hid (HC.out.below hB2 hwb)
      have k0 : W2.cell? ⟨wr.heap.size, 0, none⟩ = some (.int .u8 47) := by rw [hW2, cell_new]; rfl
      have k1 : W2.cell? ⟨wr.heap.size, 1, none⟩ = some (.int .u8 42) := by rw [hW2, cell_new]; rfl
      have KP := Lib.hid (fun cc dd hcc => Tryd.bytes_HasPrefix_all (some ⟨b, o + j, none⟩) (some ⟨wr.heap.size, 0, none⟩) (l.length - j) cc 2 dd (nums (l.drop j)) [47, 42] W2 (by rw [nums_len]; simp) rfl hcc (by have := byt_in (HC2.out.drop j); rwa [List.length_drop] at this) (fun _ => ⟨_, _, rfl, fun i hi => by
        rcases i with _ | _ | i
        · exact k0
        · exact k1
        · omega⟩))
      have KM := Lib.hid (fun hh => passComment_any b o c j l W2 HC2.out hh (by have := HN.out; omega))
      rw [HN.out] at KL KP KM
      have H2 := Lib.hid hB2
      clear hB2 k0 k1
      rw [hW2] at KP KM H2
      clear hW2
      go_wp2_with (first
        | (go_at_call 11; refine (classOf_any x _).mono ?_; rintro e w' ⟨rfl, rfl⟩)
        | (go_at_call 12; refine KL.out.mono ?_; rintro e w' ⟨rfl, rfl⟩)
        | (go_at_call 13; refine (KP.out _ _ (by omega)).mono ?_; rintro e w3 ⟨rfl, h3⟩; have h4 := h3.symm; subst h4; rw [nums_bytes]))
      · rename_i h1
        have h1 : cls x = 4 := by simp only [beq_iff_eq] at h1; omega
        go_roundg (n - (j + 1))
        case measure => omega
        case rel =>
          refine ⟨j + 1, by omega, by omega, rfl, by first | rfl | simp, fun acc => gap_on (HQ.out acc) ?_ (by omega), HW.out⟩
          rw [HD.out]; exact skip_blank h1
      · rename_i h1 h2
        have h1 : cls x ≠ 4 := by simp only [beq_eq_false_iff_ne, ne_eq] at h1; omega
        have h2 : x.toNat = 35 := by simp only [beq_iff_eq] at h2; omega
        have e1 := lineN_pos (t := l.drop (j + 1)) h2
        have e2 := lineN_le (l.drop j)
        rw [← HD.out] at e1
        rw [List.length_drop, HN.out] at e2
        go_roundg (n - (j + lineN (l.drop j)))
        case measure => omega
        case rel =>
          refine ⟨j + lineN (l.drop j), by omega, by omega, rfl, by first | rfl | simp, fun acc => gap_on (HQ.out acc) ?_ e1, HW.out⟩
          conv => lhs; rw [HD.out]
          rw [skip_line h1 h2, ← HD.out]
      · have h1 : (((cls x : Nat) : Int) == 4) = false := by assumption
        have h3 : Lib.hasPrefix (l.drop j) (Lib.bytesOf [47, 42]) = true := by assumption
        have h1 : cls x ≠ 4 := by simp only [beq_eq_false_iff_ne, ne_eq] at h1; omega
        have h3 : Lib.hasPrefix (l.drop j) [47, 42] = true := h3
        have h4 : j + 2 ≤ n := by have := pre_le h3; rw [List.length_drop, HN.out] at this; simp at this; omega
        have H3 := Lib.hid h3
        clear h3
        refine (KM.out h4).mono ?_
        rintro e w5 ⟨rfl, h5⟩
        have h6 := h5.symm
        subst h6
        have HS : Hid (skip (l.drop j) = (cEnd (l.drop (j + 2))).map (· + 2)) := by
          have := skip_com (t := l.drop (j + 1)) h1 (by rw [← HD.out]; exact H3.out)
          rw [← HD.out, List.tail_drop] at this
          exact this
        cases hE : cEnd (l.drop (j + 2)) with
        | none =>
          go_wp2
          go_ret2
          exact ⟨j, 62, rfl, ⟨hpj, .inr ⟨rfl, hj1, by rw [HS.out, hE]; rfl⟩, HQ.out⟩, HW.out.trans (H2.out.mono HW.out.size)⟩
        | some k =>
          have hk := cEnd_le _ _ hE
          rw [List.length_drop, HN.out] at hk
          have hne : ((j : Int) + 2 + k == 0) = false := by simp; omega
          go_wp2
          go_roundg (n - (j + (k + 2)))
          case measure => omega
          case rel =>
            refine ⟨j + (k + 2), by omega, by omega, rfl, by first | rfl | (congr 1; omega), fun acc => gap_on (HQ.out acc) ?_ (by omega), HW.out.trans (H2.out.mono HW.out.size)⟩
            rw [HS.out, hE]; rfl
      · rename_i h1 h2 h3
        have h1 : cls x ≠ 4 := by simp only [beq_eq_false_iff_ne, ne_eq] at h1; omega
        have h2 : x.toNat ≠ 35 := by simp only [beq_eq_false_iff_ne, ne_eq] at h2; omega
        have h3 : Lib.hasPrefix (l.drop j) [47, 42] = false := h3
        go_ret2
        refine ⟨j, 0, rfl, ⟨hpj, .inl ⟨rfl, Nat.le_of_lt hj1, .inr ?_⟩, HQ.out⟩, HW.out.trans (H2.out.mono HW.out.size)⟩
        rw [HD.out] at h3 ⊢
        exact skip_none h1 h2 h3
end Go.Proofs.YteohpiamfpnofabDoor
