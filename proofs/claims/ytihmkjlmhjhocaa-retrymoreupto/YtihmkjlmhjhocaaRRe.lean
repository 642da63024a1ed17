/- Whatever reads as a row of results: its length against the bulk of what was read; no condition. -/
import Derived.Test.YtihmkjlmhjhocaaRRd
namespace Go.Proofs.Ytihmkjlmhjhocaa
open Go.ChangeShapes Go.WideShapes Go.ChangeAt Go.WideMaps Go.WideElems Go.RowKit

theorem bulk_one {H : Type} (d : DataW H) : 1 ≤ Rows.uptoBulk d := by
  cases d with
  | lit l => cases l <;> simp [Rows.uptoBulk]
  | nil => simp [Rows.uptoBulk]
  | ptr d => simp [Rows.uptoBulk]
  | slice elems spare => simp [Rows.uptoBulk]
  | agg parts => simp [Rows.uptoBulk]
  | iface t d => simp [Rows.uptoBulk]
  | map entries => simp [Rows.uptoBulk]
  | held h => simp [Rows.uptoBulk]
theorem bulk_len {H : Type} (l : List (DataW H)) : l.length ≤ Rows.uptoBulkAll l := by
  induction l with
  | nil => exact Nat.zero_le _
  | cons d l ih => have := bulk_one d; simp only [Rows.uptoBulkAll, List.length_cons]; omega

theorem resl_len {H : Type} {enc : TypeId × Value → H} {w : World} {base : Nat} {sp : Nat → Bool} {held : Bool} (fuel : Nat) (cs : List Value) (x : DataW H × List MemPlace)
    (h : DataW.trod enc Try.prog w base sp held fuel 34 cs = some x) :
    ∃ (ad : Option Addr) (zs : List Re) (cap : Nat), cs = [.slice ad zs.length cap] ∧ zs.length ≤ Rows.uptoBulk x.1 ∧ zs.length ≤ cap ∧ cap ≤ maxLen ∧ Rrow w ad zs ∧ ∀ r ∈ zs, ∃ (n : Nat) (t : Dt.Tr n), Dt.Rep w n [.int .i64 r.k, .int .i64 r.i, .int .u64 r.u, .string r.s, .slice r.a r.n r.c] t := by
  rcases DataW.trod_slice Try.underlying34 h with ⟨e4, -⟩ | ⟨a, len, cap, elems, rest, m, hm, e4, ex, -, hlc, hcm, hel, hat, -, -⟩
  · exact ⟨none, [], 0, e4, Nat.zero_le _, Nat.le_refl _, by unfold maxLen; omega, .inl rfl, fun r hr => by cases hr⟩
  · rw [rcells] at hat
    have kid : ∀ j, j < len → ∃ r : Re, (∀ q, q < 10 → w.cell? ((a.add (j * 10)).add q) = r.cs[q]?) ∧ ∃ (n : Nat) (t : Dt.Tr n), Dt.Rep w n [.int .i64 r.k, .int .i64 r.i, .int .u64 r.u, .string r.s, .slice r.a r.n r.c] t := by
      intro j hj
      have hx := hat j hj
      rw [List.getElem?_eq_getElem (by omega)] at hx
      obtain ⟨cs', hc, ht⟩ := Option.bind_eq_some_iff.1 hx
      obtain ⟨-, hcl, hcc⟩ := World.cells?_some hc
      obtain ⟨r, n, t, e, R⟩ := res_of_trod _ _ _ ht
      subst e
      refine ⟨r, fun q hq => ?_, n, t, R⟩
      rw [hcc q hq]
      simp
    obtain ⟨zs, hzl, hzp⟩ := Dt.list_of _ len kid
    subst hzl
    refine ⟨some a, zs, cap, e4, ?_, hlc, hcm, ?_, fun r hr => ?_⟩
    · rw [ex]
      have := bulk_len (elems.map (·.1))
      rw [List.length_map, hel] at this
      simp only [Rows.uptoBulk]
      omega
    · cases hzs : zs with
      | nil => exact .inl rfl
      | cons r0 rs =>
        right
        obtain ⟨b, off, spot⟩ := a
        have h00 := (hzp 0 r0 (by rw [hzs]; rfl)).1 0 (by decide)
        have hspot : spot = none := by
          have := World.cell?_spot (h00.trans (Array.getElem?_eq_getElem (by simp)))
          simpa [Addr.add] using this
        subst hspot
        refine ⟨b, off, rfl, World.block_lt_of_cell? w _ (h00.trans (Array.getElem?_eq_getElem (by simp))), fun j r hj => ?_⟩
        have hp := (hzp j r (by rw [hzs]; exact hj)).1
        simp only [add_flat] at hp
        exact ⟨hp 0 (by decide), hp 1 (by decide), hp 2 (by decide), hp 3 (by decide), hp 4 (by decide), hp 5 (by decide), hp 6 (by decide), hp 7 (by decide), hp 8 (by decide), hp 9 (by decide)⟩
    · obtain ⟨j, hj, e⟩ := List.mem_iff_getElem.1 hr
      exact (hzp j r (by rw [List.getElem?_eq_getElem hj, e])).2

end Go.Proofs.Ytihmkjlmhjhocaa
