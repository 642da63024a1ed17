/- Whatever reads as a slice of rows of numbers lies in memory as such, and is of a size that can be; no condition. -/
import Derived.ProofKit
import Derived.OpenShut
import Derived.SizedLaws
import Derived.Test.YtblpafmcnhhdpaaUb
namespace Go.Proofs.Ytblpafmcnhhdpaa
open Go.ChangeShapes Go.WideShapes Go.ChangeAt Go.WideMaps Go.WideElems Go.RowKit

theorem list_of {T : Type} (P : Nat → T → Prop) : ∀ (len : Nat), (∀ i, i < len → ∃ t, P i t) → ∃ l : List T, l.length = len ∧ ∀ i t, l[i]? = some t → P i t := by
  intro len
  induction len with
  | zero => intro _; exact ⟨[], rfl, fun i t h => by simp at h⟩
  | succ len ih =>
    intro h
    obtain ⟨l, hl, hp⟩ := ih (fun i hi => h i (by omega))
    obtain ⟨t, ht⟩ := h len (by omega)
    refine ⟨l ++ [t], by simp [hl], fun i t' hi => ?_⟩
    by_cases hlt : i < l.length
    · rw [List.getElem?_append_left hlt] at hi; exact hp i t' hi
    · rw [List.getElem?_append_right (by omega)] at hi
      have h0 : i - l.length = 0 := by
        by_cases h1 : i - l.length = 0
        · exact h1
        · rw [List.getElem?_eq_none (by simp; omega)] at hi; cases hi
      rw [h0] at hi
      simp at hi
      have : i = len := by omega
      subst this; subst hi; exact ht
theorem addp (b o n : Nat) : (⟨b, o, none⟩ : Addr).add n = ⟨b, o + n, none⟩ := by unfold Addr.add; split <;> simp_all
theorem icell : Try.prog.cellsOf 3 = 1 := by kernel_rfl
theorem jcell : Try.prog.cellsOf 25 = 1 := by kernel_rfl
theorem ibytes : Try.prog.bytesOf 3 = 8 := by kernel_rfl
theorem jbytes : Try.prog.bytesOf 25 = 24 := by kernel_rfl
/-- All its sizes can be. -/
def Fits {H : Type} (t : TypeId) (d : DataW H) : Prop := ∀ n ∈ d.weights Try.prog t, n ≤ reachBytes
theorem fits_elem {H : Type} {e : TypeId} : ∀ (l : List (DataW H)) (d : DataW H), d ∈ l → ∀ n ∈ d.weights Try.prog e, n ∈ DataW.weightsAll Try.prog e l
  | [], d, h, _, _ => by simp at h
  | x :: r, d, h, n, hn => by
    simp only [DataW.weightsAll, List.mem_append]
    rcases List.mem_cons.1 h with rfl | h
    · exact .inl hn
    · exact .inr (fits_elem r d h n hn)

theorem ri_of_trod {H : Type} {enc : TypeId × Value → H} {w : World} {base : Nat} {sp : Nat → Bool} {held : Bool} (fuel : Nat) (cs : List Value) (y : DataW H × List MemPlace)
    (h : DataW.trod enc Try.prog w base sp held fuel 25 cs = some y) :
    ∃ (sv : Value) (l : List Int), cs = [sv] ∧ Ri w sv l ∧ (Fits 25 y.1 → l.length ≤ 140737488355328) := by
  rcases DataW.trod_slice Try.underlying25 h with ⟨e4, -⟩ | ⟨a, len, cap, elems, rest, m, hm, e4, ex, -, hlc, hcm, hel, hat, -, -⟩
  · exact ⟨.slice none 0 0, [], e4, ⟨none, 0, rfl, .inl rfl⟩, fun _ => by simp⟩
  · rw [icell] at hat
    have kid : ∀ j, j < len → ∃ i : Int, w.cell? ((a.add (j * 1)).add 0) = some (.int .i64 i) := by
      intro j hj
      have hx := hat j hj
      rw [List.getElem?_eq_getElem (by omega)] at hx
      obtain ⟨cs', hc, ht⟩ := Option.bind_eq_some_iff.1 hx
      obtain ⟨-, hcl, hcc⟩ := World.cells?_some hc
      obtain ⟨i, e, -, -⟩ := DataW.trod_int Try.underlying3 ht
      subst e
      exact ⟨i, by rw [hcc 0 (by decide)]; rfl⟩
    obtain ⟨l, hzl, hzp⟩ := list_of _ len kid
    subst hzl
    refine ⟨_, l, e4, ⟨some a, cap, rfl, ?_⟩, fun hf => ?_⟩
    · cases hzs : l with
      | nil => exact .inl rfl
      | cons r0 rs =>
        right
        obtain ⟨b, off, spot⟩ := a
        have h00 := hzp 0 r0 (by rw [hzs]; rfl)
        have hspot : spot = none := by
          have := World.cell?_spot h00
          simpa [Addr.add] using this
        subst hspot
        refine ⟨b, off, rfl, fun j x hj => ?_⟩
        have := hzp j x (by rw [hzs]; exact hj)
        rw [addp, addp] at this
        simpa using this
    · rw [ex] at hf
      have := hf ((elems.length + rest.length) * 8) (by
        simp only [DataW.weights, Try.underlying25, List.length_map, ibytes]
        exact List.mem_cons_self)
      unfold reachBytes at this
      omega

theorem rj_of_trod {H : Type} {enc : TypeId × Value → H} {w : World} {base : Nat} {sp : Nat → Bool} {held : Bool} (fuel : Nat) (cs : List Value) (y : DataW H × List MemPlace)
    (h : DataW.trod enc Try.prog w base sp held fuel 22 cs = some y) :
    ∃ (ad : Option Addr) (A : List (List Int)) (cap : Nat), cs = [.slice ad A.length cap] ∧ Rj w ad A ∧ (Fits 22 y.1 → A.length ≤ 140737488355328 ∧ ∀ l ∈ A, l.length ≤ 140737488355328) := by
  rcases DataW.trod_slice Try.underlying22 h with ⟨e4, -⟩ | ⟨a, len, cap, elems, rest, m, hm, e4, ex, -, hlc, hcm, hel, hat, -, -⟩
  · exact ⟨none, [], 0, e4, .inl rfl, fun _ => ⟨by simp, fun l h => by simp at h⟩⟩
  · rw [jcell] at hat
    have kid : ∀ j, j < len → ∃ l : List Int, (∃ sv, w.cell? ((a.add (j * 1)).add 0) = some sv ∧ Ri w sv l) ∧ (Fits 22 y.1 → l.length ≤ 140737488355328) := by
      intro j hj
      have hx := hat j hj
      rw [List.getElem?_eq_getElem (by omega)] at hx
      obtain ⟨cs', hc, ht⟩ := Option.bind_eq_some_iff.1 hx
      obtain ⟨-, hcl, hcc⟩ := World.cells?_some hc
      obtain ⟨sv, l, e, hr, hs⟩ := ri_of_trod _ _ _ ht
      subst e
      refine ⟨l, ⟨sv, by rw [hcc 0 (by decide)]; rfl, hr⟩, fun hf => hs fun n hn => ?_⟩
      rw [ex] at hf
      refine hf n ?_
      simp only [DataW.weights, Try.underlying22]
      refine List.mem_cons_of_mem _ (List.mem_append_left _ ?_)
      exact fits_elem _ _ (List.mem_map.2 ⟨_, List.getElem_mem (by omega), rfl⟩) n hn
    obtain ⟨A, hzl, hzp⟩ := list_of _ len kid
    subst hzl
    refine ⟨some a, A, cap, e4, ?_, fun hf => ⟨?_, fun l hl => ?_⟩⟩
    · cases hzs : A with
      | nil => exact .inl rfl
      | cons r0 rs =>
        right
        obtain ⟨b, off, spot⟩ := a
        obtain ⟨s0, h00, -⟩ := (hzp 0 r0 (by rw [hzs]; rfl)).1
        have hspot : spot = none := by
          have := World.cell?_spot h00
          simpa [Addr.add] using this
        subst hspot
        refine ⟨b, off, rfl, fun j x hj => ?_⟩
        obtain ⟨sv, h1, h2⟩ := (hzp j x (by rw [hzs]; exact hj)).1
        rw [addp, addp] at h1
        exact ⟨sv, by simpa using h1, h2⟩
    · rw [ex] at hf
      have := hf ((elems.length + rest.length) * 24) (by
        simp only [DataW.weights, Try.underlying22, List.length_map, jbytes]
        exact List.mem_cons_self)
      unfold reachBytes at this
      omega
    · obtain ⟨j, hj⟩ := List.getElem?_of_mem hl
      exact (hzp j l hj).2 hf
end Go.Proofs.Ytblpafmcnhhdpaa
