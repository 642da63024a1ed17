/- The document's Fit, Knows and Seen, and two rows held against each other; the conditions: the rows in memory, of a size that can be. -/
import Derived.Test.YtdnmbalmejhbcaaDf
namespace Go.Proofs.Ytdnmbalmejhbcaa
open Go.RowKit Go.Shelf

theorem below_drewN {n k : Nat} {w w' : World} (h : Below n w w') : Below n w (w'.drewN k) := h.trans ⟨rfl, rfl, rfl, Nat.le_refl _, fun _ _ => rfl⟩
/-- A fit state. -/
def fitB (size : Int) (l : List Int) : Bool := decide (1 ≤ size ∧ size ≤ 4096 ∧ (l.length : Int) ≤ size ∧ l.Nodup)
theorem nodup_at {l : List Int} : l.Nodup ↔ ∀ i k, k < i → (h : i < l.length) → l.getD k 0 ≠ l.getD i 0 := by
  unfold List.Nodup
  rw [List.pairwise_iff_getElem]
  constructor
  · intro h i k hk hi
    have := h k i (by omega) hi hk
    simpa [List.getD_eq_getElem?_getD, List.getElem?_eq_getElem hi, List.getElem?_eq_getElem (show k < l.length by omega)] using this
  · intro h i j hi hj hij
    have := h j i hij hj
    simpa [List.getD_eq_getElem?_getD, List.getElem?_eq_getElem hi, List.getElem?_eq_getElem hj] using this
theorem Sl.getD {w : World} {ad : Option Addr} {cap : Nat} {l : List Int} (h : Sl w ad cap l) (hp : 0 < l.length) : ∃ b o, ad = some ⟨b, o, none⟩ ∧ b < w.heap.size ∧ ∀ j, j < l.length → w.cell? ⟨b, o + j, none⟩ = some (.int .i64 (l.getD j 0)) := by
  obtain ⟨b, o, e, h1, h2⟩ := h.cell hp
  exact ⟨b, o, e, h1, fun j hj => by rw [h2 j hj, List.getD_eq_getElem?_getD, List.getElem?_eq_getElem hj]; rfl⟩
theorem mem_getD {l : List Int} {x : Int} : x ∈ l ↔ ∃ j, j < l.length ∧ l.getD j 0 = x := by
  rw [List.mem_iff_getElem]
  constructor
  · rintro ⟨j, hj, e⟩
    exact ⟨j, hj, by rw [List.getD_eq_getElem?_getD, List.getElem?_eq_getElem hj]; exact e⟩
  · rintro ⟨j, hj, e⟩
    exact ⟨j, hj, by rw [List.getD_eq_getElem?_getD, List.getElem?_eq_getElem hj] at e; exact e⟩

set_option maxRecDepth 100000 in
set_option maxHeartbeats 1000000 in
theorem rknows_any (ad : Option Addr) (zs : List Int) (cap : Nat) (id : Int) (w : World) (hreach : zs.length ≤ 9223372036854775806) (hI : Sl w ad cap zs) :
    Calls Try.prog 12 #[.agg #[.slice ad zs.length cap], .int .i64 id] w fun e w' => e = .returned (.bool (decide (id ∈ zs))) ∧ Below w.heap.size w w' := by
  have HI := Lib.hid hI
  clear hI
  go_enter Try.func12, Try.ntmps12
  go_wp2_with fail
  go_loopw [6, 10] (fun _ si wr => ∃ j : Nat, si = .int .i64 j ∧ j ≤ zs.length ∧ (∀ k, k < j → zs.getD k 0 ≠ id) ∧ w.alloc (.cells #[.slice ad zs.length cap] 24) = wr) (fun _ si _ => (zs.length - intOf si).toNat)
  case atStart => exact ⟨0, rfl, Nat.zero_le _, fun k hk => by omega, rfl⟩
  case round =>
    obtain ⟨j, rfl, hj, hne, rfl⟩ := hrel
    by_cases hjl : j < zs.length
    · obtain ⟨b, o, rfl, hb, hc⟩ := (HI.out.step (below1 w (.cells #[.slice ad zs.length cap] 24))).getD (by omega)
      have c1 := hc j hjl
      have HJ := Lib.hid (fun h : zs.getD j 0 = id => mem_getD.2 ⟨j, hjl, h⟩)
      clear hc
      have HN : Hid (∀ x, zs.getD j 0 = x → x ≠ id → ∀ k, k < j + 1 → zs.getD k 0 ≠ id) := Lib.hid fun x hx hx2 k hk => by
        rcases Nat.lt_or_ge k j with h | h
        · exact hne k h
        · obtain rfl : k = j := by omega
          rw [hx]; exact hx2
      clear hne
      generalize hX : zs.getD j 0 = X at c1 HJ HN
      clear hX
      by_cases hx : X = id
      · have HM := Lib.hid (decide_eq_true (HJ.out hx))
        subst hx
        clear HJ HN
        go_wp2_with fail
        go_ret
        exact ⟨by rw [HM.out]; rfl, below1 _ _⟩
      · go_wp2_with fail
        exact ⟨⟨j + 1, by simp, by omega, HN.out X rfl hx, trivial⟩, by simp [intOf]; omega⟩
    · have hm : ¬ id ∈ zs := fun h => by
        obtain ⟨k, hk, e⟩ := mem_getD.1 h
        exact hne k (by omega) e
      have HM := Lib.hid (decide_eq_false hm)
      clear hm hne
      go_wp2_with fail
      go_ret
      exact ⟨by rw [HM.out]; rfl, below1 _ _⟩
set_option maxRecDepth 100000 in
set_option maxHeartbeats 1000000 in
theorem same_yes (a1 a2 : Option Addr) (zs : List Int) (c1 c2 : Nat) (w : World) (hreach : zs.length ≤ 9223372036854775806) (h1 : Sl w a1 c1 zs) (h2 : Sl w a2 c2 zs) :
    Calls Try.prog 10 #[.agg #[.slice a1 zs.length c1], .agg #[.slice a2 zs.length c2]] w fun e w' => e = .returned (.bool true) ∧ Below w.heap.size w w' := by
  have H1 := Lib.hid h1
  have H2 := Lib.hid h2
  clear h1 h2
  go_enter Try.func10, Try.ntmps10
  go_wp2_with fail
  go_loopw [5, 16] (fun _ si wr => ∃ j : Nat, si = .int .i64 j ∧ j ≤ zs.length ∧ Hid (Below (w.heap.size + 2) ((w.alloc (.cells #[.slice a1 zs.length c1] 24)).alloc (.cells #[.slice a2 zs.length c2] 24)) wr)) (fun _ si _ => (zs.length - intOf si).toNat)
  case atStart => exact ⟨0, rfl, Nat.zero_le _, Lib.hid (Below.refl _ _)⟩
  case round =>
    obtain ⟨j, rfl, hj, hB⟩ := hrel
    have b2 := below2 w (.cells #[.slice a1 zs.length c1] 24) (.cells #[.slice a2 zs.length c2] 24)
    by_cases hjl : j < zs.length
    · obtain ⟨b, o, rfl, hb, hc⟩ := ((H1.out.step b2).below hB.out (by simp)).getD (by omega)
      obtain ⟨b', o', rfl, hb', hc'⟩ := ((H2.out.step b2).below hB.out (by simp)).getD (by omega)
      have d1 := hc j hjl
      have d2 := hc' j hjl
      have A0 : Bk wr w.heap.size _ _ := ((Bk.new w #[.slice (some ⟨b, o, none⟩) zs.length c1] 24).alloc (.cells #[.slice (some ⟨b', o', none⟩) zs.length c2] 24)).under hB.out (by omega)
      have A1 : Bk wr (w.heap.size + 1) _ _ := (Bk.new2 w (.cells #[.slice (some ⟨b, o, none⟩) zs.length c1] 24) #[.slice (some ⟨b', o', none⟩) zs.length c2] 24).under hB.out (by omega)
      have e0 := A0.c 0
      have e1 := A1.c 0
      simp at e0 e1
      clear hc hc' A0 A1 b2 hb hb'
      generalize zs.getD j 0 = X at d1 d2
      go_wp2_with fail
      go_quiet (fail)
      go_wp2_with fail
      exact ⟨⟨j + 1, by simp, by omega, Lib.hid (below_drewN hB.out)⟩, by simp [intOf]; omega⟩
    · have FIN := Lib.hid (b2.trans (hB.out.mono (by omega)))
      clear b2
      go_wp2_with fail
      go_ret
      exact ⟨rfl, FIN.out⟩
set_option maxRecDepth 100000 in
set_option maxHeartbeats 1000000 in
theorem rfit_any (ad : Option Addr) (l : List Int) (cap : Nat) (size : Int) (w : World) (hI : Sl w ad cap l) :
    Calls Try.prog 6 #[.agg #[.slice ad l.length cap], .int .i64 size] w fun e w' => e = .returned (.bool (fitB size l)) ∧ Below w.heap.size w w' := by
  have HI := Lib.hid hI
  clear hI
  by_cases h1 : size < 1
  · rw [show fitB size l = false from decide_eq_false (by omega)]
    go_enter Try.func6, Try.ntmps6
    go_wp2_with fail
    go_ret
    exact ⟨rfl, below1 _ _⟩
  · by_cases h2 : 4096 < size
    · rw [show fitB size l = false from decide_eq_false (by omega)]
      go_enter Try.func6, Try.ntmps6
      go_wp2_with fail
      go_ret
      exact ⟨rfl, below1 _ _⟩
    · by_cases h3 : size < l.length
      · rw [show fitB size l = false from decide_eq_false (by omega)]
        go_enter Try.func6, Try.ntmps6
        go_wp2_with fail
        go_ret
        exact ⟨rfl, below1 _ _⟩
      · go_enter Try.func6, Try.ntmps6
        go_wp2_with fail
        go_loopw [5, 6, 23] (fun _ _ si wr => ∃ i : Nat, si = .int .i64 i ∧ i ≤ l.length ∧ Hid ((∀ i', i' < i → ∀ k, k < i' → l.getD k 0 ≠ l.getD i' 0) ∧ Below (w.heap.size + 1) (w.alloc (.cells #[.slice ad l.length cap] 24)) wr)) (fun _ _ si _ => (l.length - intOf si).toNat)
        case atStart => exact ⟨0, rfl, Nat.zero_le _, Lib.hid ⟨fun i hi => by omega, Below.refl _ _⟩⟩
        case round =>
          obtain ⟨i, rfl, hi, hR⟩ := hrel
          by_cases hil : i < l.length
          · go_wp2_with fail
            go_loopw [6] (fun sk wx => ∃ k : Nat, sk = .int .i64 k ∧ k ≤ i ∧ Hid ((∀ k', k' < k → l.getD k' 0 ≠ l.getD i 0) ∧ Below (w.heap.size + 1) (w.alloc (.cells #[.slice ad l.length cap] 24)) wx)) (fun sk _ => (i - intOf sk).toNat)
            case atStart => exact ⟨0, rfl, Nat.zero_le _, Lib.hid ⟨fun i hi => by omega, hR.out.2⟩⟩
            case round =>
              obtain ⟨k, rfl, hk, hS⟩ := hrel
              by_cases hki : k < i
              · obtain ⟨b, o, rfl, hb, hc⟩ := ((HI.out.step (below1 w (.cells #[.slice ad l.length cap] 24))).below hS.out.2 (by simp)).getD (by omega)
                have d1 := hc i hil
                have d2 := hc k (by omega)
                have A0 : Bk wr w.heap.size _ _ := (Bk.new w #[.slice (some ⟨b, o, none⟩) l.length cap] 24).under hS.out.2 (by omega)
                have e0 := A0.c 0
                simp at e0
                clear hc A0 hb
                by_cases hx : l.getD k 0 = l.getD i 0
                · have hf : fitB size l = false := decide_eq_false fun h => (nodup_at.1 h.2.2.2) i k hki hil hx
                  have HM := Lib.hid hf
                  rw [hx] at d2
                  generalize l.getD i 0 = X at d1 d2
                  clear hf hx
                  have FIN := Lib.hid ((below1 w (.cells #[.slice (some ⟨b, o, none⟩) l.length cap] 24)).trans (hS.out.2.mono (by omega)))
                  go_wp2_with fail
                  go_quiet (fail)
                  go_wp2_with fail
                  go_ret
                  exact ⟨by rw [HM.out]; rfl, below_drewN FIN.out⟩
                · have HN : Hid (∀ k', k' < k + 1 → l.getD k' 0 ≠ l.getD i 0) := Lib.hid fun k' hk' => by
                    rcases Nat.lt_or_ge k' k with h | h
                    · exact hS.out.1 k' h
                    · obtain rfl : k' = k := by omega
                      exact hx
                  have hx2 := Lib.hid hx
                  generalize l.getD i 0 = X at d1 hx HN
                  generalize l.getD k 0 = Y at d2 hx
                  go_wp2_with fail
                  go_quiet (fail)
                  go_wp2_with fail
                  exact ⟨⟨k + 1, by simp, by omega, Lib.hid ⟨HN.out, below_drewN hS.out.2⟩⟩, by simp [intOf]; omega⟩
              · go_wp2_with fail
                exact ⟨⟨i + 1, by simp, by omega, Lib.hid ⟨fun i' hi' k' hk' => by
                  rcases Nat.lt_or_ge i' i with h | h
                  · exact hR.out.1 i' h k' hk'
                  · obtain rfl : i' = i := by omega
                    exact hS.out.1 k' (by omega), hS.out.2⟩⟩, by simp [intOf]; omega⟩
          · have hf : fitB size l = true := decide_eq_true ⟨by omega, by omega, by omega, nodup_at.2 fun i' k' hk' hi' => hR.out.1 i' (by omega) k' hk'⟩
            have HM := Lib.hid hf
            clear hf
            have FIN := Lib.hid ((below1 w (.cells #[.slice ad l.length cap] 24)).trans (hR.out.2.mono (by omega)))
            go_wp2_with fail
            go_ret
            exact ⟨by rw [HM.out]; rfl, FIN.out⟩
end Go.Proofs.Ytdnmbalmejhbcaa
