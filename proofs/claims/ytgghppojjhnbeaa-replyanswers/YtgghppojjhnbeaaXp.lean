/- The package's Answer; the conditions that each theorem names. -/
import Derived.Test.YtgghppojjhnbeaaXo
namespace Go.Proofs.Ytgghppojjhnbeaa
open Go.RowKit

theorem fold_no (now co : Int) (tp : ByteArray) : ∀ (L : List Ak) (e : Int), (∀ x ∈ L, mtc co tp x = false) → L.foldl (an1 now co tp) e = e
  | [], _, _ => rfl
  | a :: r, e, h => by
    have h1 : an1 now co tp e a = e := by unfold an1; rw [h a (by simp)]; rfl
    rw [List.foldl_cons, h1]
    exact fold_no now co tp r e fun x hx => h x (by simp [hx])
theorem an_no {now co : Int} {tp : ByteArray} {L : List Ak} (h : ∀ x ∈ L, mtc co tp x = false) : anL co tp L = L ∧ anE now co tp L = 230 := by
  refine ⟨?_, fold_no now co tp L 230 h⟩
  unfold anL
  rw [List.filter_eq_self]
  intro x hx
  rw [h x hx]
  rfl
theorem an_none {now co : Int} {tp : ByteArray} {L : List Ak} (h : lk (plc L) co = none) : anL co tp L = L ∧ anE now co tp L = 230 := by
  refine an_no fun x hx => ?_
  have hm : x.co ∈ (plc L).map (·.1) := by rw [plc_keys]; exact List.mem_map.2 ⟨x, hx, rfl⟩
  obtain ⟨y, hy, e⟩ := List.mem_map.1 hm
  have hne : x.co ≠ co := fun e2 => none_lk h y hy (e.trans e2)
  unfold mtc
  rw [decide_eq_false hne]
  rfl
theorem an_other {now co : Int} {tp : ByteArray} {L : List Ak} (hn : (L.map Ak.co).Nodup) {n : Nat} {a : Ak} (ha : L[n]? = some a) (hc : a.co = co) (ht : a.tp ≠ tp) : anL co tp L = L ∧ anE now co tp L = 230 := by
  refine an_no fun x hx => ?_
  unfold mtc
  by_cases e : x.co = co
  · obtain ⟨m, hm⟩ := List.mem_iff_getElem?.1 hx
    have := co_inj hn hm ha (e.trans hc.symm)
    subst this
    rw [hm] at ha
    cases ha
    rw [decide_eq_false ht, Bool.and_false]
  · rw [decide_eq_false e]
    rfl
theorem an_yes {now co : Int} {tp : ByteArray} {L : List Ak} (hn : (L.map Ak.co).Nodup) {n : Nat} {a : Ak} (ha : L[n]? = some a) (hc : a.co = co) (ht : a.tp = tp) :
    anL co tp L = inM ((plc L).filter fun x => x.1 != co) L ∧ anE now co tp L = if lat now a = true then 170 else 0 := by
  have hun : ∀ (m : Nat) (x : Ak), L[m]? = some x → m ≠ n → x.co ≠ co := fun m x hm hne e => hne (co_inj hn hm ha (e.trans hc.symm))
  have hmt : mtc co tp a = true := by unfold mtc; rw [hc, ht]; simp
  constructor
  · unfold anL inM
    refine List.filter_congr fun x hx => ?_
    obtain ⟨m, hm⟩ := List.mem_iff_getElem?.1 hx
    have hk : x.co ∈ (plc L).map (·.1) := by rw [plc_keys]; exact List.mem_map.2 ⟨x, hx, rfl⟩
    obtain ⟨y, hy, e⟩ := List.mem_map.1 hk
    by_cases c : m = n
    · subst c
      rw [hm] at ha
      cases ha
      rw [hmt]
      symm
      rw [lk_none]
      · rfl
      · intro z hz e2
        have h9 := (List.mem_filter.1 hz).2
        rw [e2, hc] at h9
        simp at h9
    · have h1 := hun m x hm c
      have h2 : mtc co tp x = false := by unfold mtc; rw [decide_eq_false h1]; rfl
      rw [h2]
      symm
      exact isSome_lk.2 ⟨y, List.mem_filter.2 ⟨hy, by rw [e]; simpa using h1⟩, e⟩
  · have hl := (List.getElem?_eq_some_iff.1 ha).1
    have e : L = L.take n ++ a :: L.drop (n + 1) := by
      have h5 : a = L[n] := by rw [List.getElem?_eq_getElem hl] at ha; cases ha; rfl
      rw [h5, ← List.drop_eq_getElem_cons hl, List.take_append_drop]
    have p1 : ∀ x ∈ L.take n, mtc co tp x = false := fun x hx => by
      obtain ⟨m, hm⟩ := List.mem_iff_getElem?.1 hx
      have hmn := (List.getElem?_eq_some_iff.1 hm).1
      rw [List.length_take] at hmn
      rw [List.getElem?_take, if_pos (by omega)] at hm
      have h1 := hun m x hm (by omega)
      unfold mtc; rw [decide_eq_false h1]; rfl
    have p2 : ∀ x ∈ L.drop (n + 1), mtc co tp x = false := fun x hx => by
      obtain ⟨m, hm⟩ := List.mem_iff_getElem?.1 hx
      rw [List.getElem?_drop] at hm
      have h1 := hun _ x hm (by omega)
      unfold mtc; rw [decide_eq_false h1]; rfl
    unfold anE
    rw [e, List.foldl_append, List.foldl_cons, fold_no now co tp _ _ p1, fold_no now co tp _ _ p2]
    unfold an1
    rw [if_pos hmt]

end Go.Proofs.Ytgghppojjhnbeaa
